/-
  Contract of Append, of package disk. Conditions: a disk as DiskAt says.
-/
import Derived.Test.YtgdaphckgckaaaaDiskF
import Derived.WalkLawsBesides
import Derived.Laws.Small
import Derived.Lib.Strings
namespace Go.Proofs.Ytgdaphckgckaaaa.Dk
open Go.RowKit
set_option maxRecDepth 100000

theorem DiskAt.drew {B a : Nat} {l : List UInt8} {sy ro : Nat} {h : Bool} {w : World} (D : DiskAt B a l sy ro h w) : DiskAt B a l sy ro h w.drew := by
  obtain ⟨v, vs, D⟩ := D
  exact ⟨v, vs, D.drew⟩

set_option maxRecDepth 100000 in
theorem append_full {B a : Nat} {l : List UInt8} {sy ro : Nat} {h : Bool} {w : World} (D : DiskAt B a l sy ro h w) (s : ByteArray) (hs : s.size ≤ maxLen) (hro : ro < l.length + s.size) :
    Calls Try.prog 18 #[.pointer (some ⟨a, 0, none⟩), .string s] w fun e w' => e = .returned (.int .i64 4) ∧ DiskAt B a l sy ro h w' ∧ Far B w w' := by
  have hD := D
  obtain ⟨v, vs, D⟩ := D
  unfold maxLen at hs
  have hlen := D.len_le
  have hrole := D.ro_le
  obtain ⟨c0, c1, c2, c3, c4⟩ := D.head.cells
  have ht : (ro : Int) - (l.length : Int) < (s.size : Int) := by omega
  go_enter Try.func18, Try.ntmps18
  go_wp2
  refine wp_scope_jumps 0 (fun _ _ => False) (fun _ _ => 0) rfl ?_ (fun _ _ hf => hf.elim)
  go_wp2
  go_region
  go_wp2
  simp only [Exit.jump]
  go_ret
  exact ⟨rfl, hD.drew, Far.drew B w⟩

theorem split_at (t : ByteArray) (m : Nat) (h : m ≤ t.size) : (t.extract 0 m).data.toList ++ (t.extract m t.size).data.toList = t.data.toList ∧ (t.extract 0 m).size = m ∧ (t.extract m t.size).size = t.size - m := by
  refine ⟨?_, by rw [ByteArray.size_extract]; omega, by rw [ByteArray.size_extract]; omega⟩
  rw [Lib.extract_data, Lib.extract_data]
  simp only [List.drop_zero, Nat.sub_zero]
  rw [List.take_of_length_le (l := t.data.toList.drop m) (by rw [List.length_drop, ← Lib.size_eq]; exact Nat.le_refl _), List.take_append_drop]

/-- the bytes that a slot holds -/
def strOf : Value → Nat | .string t => t.size | _ => 0

theorem nonempty_of (t : ByteArray) (h : 0 < t.size) : t.toList.isEmpty = false := by
  rw [ByteArray.toList_eq, Bool.eq_false_iff, ne_eq, List.isEmpty_iff_length_eq_zero, ← Lib.size_eq]; omega

set_option maxHeartbeats 1000000 in
set_option maxRecDepth 100000 in
theorem append_fits {B a : Nat} {l : List UInt8} {sy ro : Nat} {h : Bool} {w : World} (D : DiskAt B a l sy ro h w) (s : ByteArray) (hro : l.length + s.size ≤ ro) :
    Calls Try.prog 18 #[.pointer (some ⟨a, 0, none⟩), .string s] w fun e w' => e = .returned (.int .i64 0) ∧ DiskAt B a (l ++ s.data.toList) sy ro h w' ∧ Far B w w' := by
  have hD := D.drew
  obtain ⟨v, vs, D⟩ := D
  have hlen := D.len_le
  have hrole := D.ro_le
  obtain ⟨c0, c1, c2, c3, c4⟩ := D.head.cells
  have ht : ¬ ((ro : Int) - (l.length : Int) < (s.size : Int)) := by omega
  have hsl : s.size = s.data.toList.length := Lib.size_eq s
  have HSL := Lib.hid hsl
  clear hsl
  go_enter Try.func18, Try.ntmps18
  go_wp2
  refine wp_scope_jumps 0 (fun a' W => ∃ (t : ByteArray) (pre : List UInt8) (u2 u3 u5 u6 u7 u8 u9 u10 u11 u12 u13 u14 u15 u16 u17 u18 u19 u20 u21 u22 u23 u24 u25 u26 u27 u28 u29 u30 u31 u32 u33 u34 u35 u36 : Value), a' = { tmps := #[.pointer (some ⟨a, 0, none⟩), .string t, u2, u3, .int .i64 0, u5, u6, u7, u8, u9, u10, u11, u12, u13, u14, u15, u16, u17, u18, u19, u20, u21, u22, u23, u24, u25, u26, u27, u28, u29, u30, u31, u32, u33, u34, u35, u36], defers := [] } ∧ pre ++ t.data.toList = s.data.toList ∧ DiskAt B a (l ++ pre) sy ro h W ∧ Far B w W) (fun a' _ => strOf (a'.tmps.getD 1 undef)) rfl ?_ ?_
  · by_cases h0 : 0 < s.size
    · have he := nonempty_of s h0
      obtain ⟨m, hm⟩ : ∃ m, min s.size (4096 - l.length % 4096) = m := ⟨_, rfl⟩
      have hmin : ∀ W', (Builtin.min_ #[3, 3] 3 #[.int .i64 (s.size : Int), .int .i64 (4096 - (l.length : Int) % 4096)]).run Try.prog W' = .ok (.int .i64 (m : Int)) W' := by
        intro W'
        rw [run_min_int2]
        have : (if (4096 - (l.length : Int) % 4096) < (s.size : Int) then (4096 - (l.length : Int) % 4096) else (s.size : Int)) = (m : Int) := by split <;> omega
        rw [this]
      have m0 : (0 : Int) ≤ (m : Int) := by omega
      have m1 : (m : Int) ≤ (s.size : Int) := by omega
      have m2 : 0 < m := by omega
      have m3 : m ≤ 4096 - l.length % 4096 := by omega
      have m4 : m ≤ s.size := by omega
      have hsp := split_at s m m4
      obtain ⟨x, hx⟩ : ∃ x, s.extract 0 m = x := ⟨_, rfl⟩
      obtain ⟨y, hy⟩ : ∃ y, s.extract m s.size = y := ⟨_, rfl⟩
      rw [hx, hy] at hsp
      obtain ⟨h5, h6, h7⟩ := hsp
      have HS := Lib.hid h5
      have HX := Lib.hid h6
      have HY := Lib.hid h7
      clear hm h5 h6 h7
      go_wp2
      go_region
      go_wp2_with fail
      go_step3
      go_wp2_with fail
      refine (fill_any hD x (by rw [HX.out]; exact m2) (by rw [HX.out]; exact m3) (by rw [HX.out]; omega)).mono ?_
      rintro e w1 ⟨rfl, hD1, hF1⟩
      go_wp2
      go_step3
      exact ⟨rfl, y, x.data.toList, _, _, _, _, _, _, _, _, _, _, _, _, _, _, _, _, _, _, _, _, _, _, _, _, _, _, _, _, _, _, _, _, _, _, rfl, HS.out, hD1, (Far.drew B w).trans hF1⟩
    · have hz : s.size = 0 := by omega
      obtain rfl : s = ⟨#[]⟩ := ByteArray.ext (Array.eq_empty_of_size_eq_zero hz)
      clear h0 hz
      go_wp2
      go_region
      go_wp2_with fail
      go_step3
      go_wp2
      simp only [Exit.jump]
      go_ret
      refine ⟨rfl, ?_, Far.drew B w⟩
      have e : l ++ (⟨#[]⟩ : ByteArray).data.toList = l := List.append_nil l
      rw [e]
      exact hD
  · clear c0 c1 c2 c3 c4 hD D ht
    rintro a' W ⟨t, pre, u2, u3, u5, u6, u7, u8, u9, u10, u11, u12, u13, u14, u15, u16, u17, u18, u19, u20, u21, u22, u23, u24, u25, u26, u27, u28, u29, u30, u31, u32, u33, u34, u35, u36, rfl, hpre, hD, hF⟩
    have hL : (l ++ pre).length + t.size = l.length + s.size := by
      have h1 : (pre ++ t.data.toList).length = s.data.toList.length := by rw [hpre]
      rw [List.length_append, ← Lib.size_eq, ← Lib.size_eq] at h1
      rw [List.length_append]
      omega
    obtain ⟨L, hLL⟩ : ∃ L, l ++ pre = L := ⟨_, rfl⟩
    rw [hLL] at hD hL
    have HLL := Lib.hid hLL
    have HP := Lib.hid hpre
    have hLr : L.length + t.size ≤ ro := by omega
    clear hLL hpre hL
    have hD' := hD
    obtain ⟨v, vs, D⟩ := hD'
    obtain ⟨c0, c1, c2, c3, c4⟩ := D.head.cells
    by_cases h0 : 0 < t.size
    · have he := nonempty_of t h0
      obtain ⟨m, hm⟩ : ∃ m, min t.size (4096 - L.length % 4096) = m := ⟨_, rfl⟩
      have hmin : ∀ W', (Builtin.min_ #[3, 3] 3 #[.int .i64 (t.size : Int), .int .i64 (4096 - (L.length : Int) % 4096)]).run Try.prog W' = .ok (.int .i64 (m : Int)) W' := by
        intro W'
        rw [run_min_int2]
        have : (if (4096 - (L.length : Int) % 4096) < (t.size : Int) then (4096 - (L.length : Int) % 4096) else (t.size : Int)) = (m : Int) := by split <;> omega
        rw [this]
      have m0 : (0 : Int) ≤ (m : Int) := by omega
      have m1 : (m : Int) ≤ (t.size : Int) := by omega
      have m2 : 0 < m := by omega
      have m3 : m ≤ 4096 - L.length % 4096 := by omega
      have m4 : m ≤ t.size := by omega
      have hsp := split_at t m m4
      obtain ⟨x, hx⟩ : ∃ x, t.extract 0 m = x := ⟨_, rfl⟩
      obtain ⟨y, hy⟩ : ∃ y, t.extract m t.size = y := ⟨_, rfl⟩
      rw [hx, hy] at hsp
      obtain ⟨h5, h6, h7⟩ := hsp
      have HS := Lib.hid h5
      have HX := Lib.hid h6
      have HY := Lib.hid h7
      clear hm h5 h6 h7
      go_wp2_with fail
      refine (fill_any hD x (by rw [HX.out]; exact m2) (by rw [HX.out]; exact m3) (by rw [HX.out]; omega)).mono ?_
      rintro e w1 ⟨rfl, hD1, hF1⟩
      go_wp2
      go_step3
      refine ⟨rfl, ⟨y, pre ++ x.data.toList, _, _, _, _, _, _, _, _, _, _, _, _, _, _, _, _, _, _, _, _, _, _, _, _, _, _, _, _, _, _, _, _, _, _, rfl, ?_, ?_, hF.trans hF1⟩, ?_⟩
      · rw [List.append_assoc, HS.out, HP.out]
      · rw [← List.append_assoc, HLL.out]; exact hD1
      · show y.size < t.size
        have := HY.out
        omega
    · have hz : t.size = 0 := by omega
      obtain rfl : t = ⟨#[]⟩ := ByteArray.ext (Array.eq_empty_of_size_eq_zero hz)
      clear h0 hz
      go_wp2
      simp only [Exit.jump]
      go_ret
      refine ⟨rfl, ?_, hF⟩
      have e : pre ++ (⟨#[]⟩ : ByteArray).data.toList = pre := List.append_nil pre
      rw [← HP.out, e, HLL.out]
      exact hD
end Go.Proofs.Ytgdaphckgckaaaa.Dk
