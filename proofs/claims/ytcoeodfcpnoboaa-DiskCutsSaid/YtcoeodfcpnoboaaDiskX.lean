/-
  Contract of the statements' own examples: they are so, and memory that was there is as it was.
-/
import Derived.Test.YtcoeodfcpnoboaaDiskC
import Derived.Laws.Small
import Derived.Lib.Strings
namespace Go.Proofs.Ytcoeodfcpnoboaa.Dk
open Go.RowKit

/-- Bytes, said of a text -/
theorem bytes_str {B a : Nat} {l : List UInt8} {sy ro : Nat} {h : Bool} {w : World} (D : DiskAt B a l sy ro h w) (y : ByteArray) (hy : y.data.toList = l) :
    Calls Try.prog 23 #[.pointer (some ⟨a, 0, none⟩)] w fun e w' => e = .returned (.string y) ∧ DiskAt B a l sy ro h w' ∧ Below w.heap.size w w' := by
  refine (bytes_any D).mono ?_
  rintro e w' ⟨rfl, hb⟩
  have e1 : (⟨l.toArray⟩ : ByteArray) = y := by subst hy; rfl
  exact ⟨by rw [e1], D.below hb, hb⟩

theorem DiskAt.said {B a : Nat} {l l' : List UInt8} {sy sy' ro : Nat} {h : Bool} {w : World} (D : DiskAt B a l sy ro h w) (hl : l = l') (hs : sy = sy') : DiskAt B a l' sy' ro h w := by
  subst hl hs; exact D

theorem data_append (x y : ByteArray) : (x ++ y).data.toList = x.data.toList ++ y.data.toList := by simp
theorem data_length (x : ByteArray) : x.data.toList.length = x.size := (Lib.size_eq x).symm

/-- the first n bytes of a text, as the laws cut it -/
theorem cut_min (s : ByteArray) (k : Nat) (K : Int) (hK : K = (k : Int)) : ∃ m : Nat, (∀ W, (Builtin.min_ #[3, 3] 3 #[.int .i64 (s.size : Int), .int .i64 K]).run Try.prog W = .ok (.int .i64 (m : Int)) W) ∧ (0 : Int) ≤ (m : Int) ∧ (m : Int) ≤ (s.size : Int) ∧ m ≤ k ∧ (s.extract 0 m).size = m := by
  refine ⟨min s.size k, fun W => ?_, by omega, by omega, by omega, by rw [ByteArray.size_extract]; omega⟩
  rw [run_min_int2]
  have : (if K < (s.size : Int) then K else (s.size : Int)) = ((min s.size k : Nat) : Int) := by split <;> omega
  rw [this]

theorem behind {w w1 w2 : World} (h : Below w.heap.size w w1) (k : Below w1.heap.size w1 w2) : Below w.heap.size w w2 := h.trans (k.mono h.size)

set_option maxHeartbeats 2000000 in
set_option maxRecDepth 100000 in
theorem examples_any (w : World) : Calls Try.prog 9 #[] w fun e w' => e = .returned (.bool true) ∧ Below w.heap.size w w' := by
  go_enter Try.func9, Try.ntmps9
  go_wp2_with fail
  refine (new_no 0 (by decide) _).mono ?_
  rintro e w1 ⟨rfl, rfl⟩
  go_wp2_with fail
  refine (new_yes 6 (by decide) (by decide) _).mono ?_
  rintro e w1 ⟨rfl, hD, hb⟩
  go_wp2_with fail
  refine (append_fits hD ⟨#[97, 98, 99]⟩ (by decide)).mono ?_
  rintro e w2 ⟨rfl, hD1, hF⟩
  have hb1 := hb.trans hF.below
  have hD2 : DiskAt w.heap.size w.heap.size [97, 98, 99] 0 6 false w2 := hD1
  clear hD hD1 hF hb
  go_wp2_with fail
  refine (sync_any hD2).mono ?_
  rintro e w3 ⟨rfl, hD, hF⟩
  have hb := hb1.trans hF.below
  have hD1 : DiskAt w.heap.size w.heap.size [97, 98, 99] 3 6 false w3 := hD
  clear hD hF hb1 hD2
  go_wp2_with fail
  refine (append_full hD1 ⟨#[100, 101, 102, 103]⟩ (by decide) (by decide)).mono ?_
  rintro e w4 ⟨rfl, hD, hF⟩
  have hb1 := hb.trans hF.below
  clear hD1 hF hb
  go_wp2_with fail
  refine (append_fits hD ⟨#[100, 101, 102]⟩ (by decide)).mono ?_
  rintro e w5 ⟨rfl, hD1, hF⟩
  have hb := hb1.trans hF.below
  have hD2 : DiskAt w.heap.size w.heap.size [97, 98, 99, 100, 101, 102] 3 6 false w5 := hD1
  clear hD hD1 hF hb1
  go_wp2_with fail
  refine (synced_any hD2).mono ?_
  rintro e w6 ⟨rfl, rfl⟩
  go_wp2_with fail
  refine (crash_any hD2 2).mono ?_
  rintro e w7 ⟨rfl, hD, hF⟩
  have hb1 := hb.trans hF.below
  have hD1 : DiskAt w.heap.size w.heap.size [97, 98, 99, 100, 101] 5 6 false w7 := hD
  clear hD hD2 hF hb
  go_wp2_with fail
  refine (bytes_any hD1).mono ?_
  rintro e w8 ⟨rfl, hbb⟩
  have hD := hD1.below hbb
  have hb := hb1.trans (hbb.mono hD1.heap)
  clear hD1 hbb hb1
  go_wp2_with fail
  refine (synced_any hD).mono ?_
  rintro e w9 ⟨rfl, rfl⟩
  go_wp2_with fail
  refine (cut_no hD 9 (by decide)).mono ?_
  rintro e w9 ⟨rfl, rfl⟩
  go_wp2_with fail
  refine (cut_yes hD 1 (by decide)).mono ?_
  rintro e w10 ⟨rfl, hD1, hF⟩
  have hb1 := hb.trans hF.below
  have hD2 : DiskAt w.heap.size w.heap.size [97] 1 6 false w10 := hD1
  clear hD hD1 hF hb
  go_wp2_with fail
  refine (bytes_any hD2).mono ?_
  rintro e w11 ⟨rfl, hbb⟩
  have hD := hD2.below hbb
  have hb := hb1.trans (hbb.mono hD2.heap)
  clear hD2 hbb hb1
  go_wp2_with fail
  refine (grow_any hD 4).mono ?_
  rintro e w12 ⟨rfl, hD1, hF⟩
  have hb1 := hb.trans hF.below
  have hD2 : DiskAt w.heap.size w.heap.size [97] 1 10 false w12 := hD1
  clear hD hD1 hF hb
  rw [show growsE 6 4 = 0 by decide]
  go_wp2_with fail
  refine (room_any hD2).mono ?_
  rintro e w13 ⟨rfl, rfl⟩
  go_wp2
  go_ret
  exact ⟨rfl, hb1⟩
end Go.Proofs.Ytcoeodfcpnoboaa.Dk
