/-
  Contracts of the readers: Number in one, the document's Number, Text, Flag.
-/
import Derived.Test.YtkemljpjfbmjgaaDoorPackN
namespace Go.Proofs.YtkemljpjfbmjgaaDoor.Pk
open Go.RowKit
set_option maxRecDepth 100000

theorem number_any (s : ByteArray) (b : Bool) (k : Int) (n : Nat) (y : ByteArray) (z : Bool) (h : number s b k = (n, y, z)) (hs : s.size ≤ maxLen) (w : World) :
    Calls Tryd.prog 40 #[.agg #[.string s, .bool b], .int .i64 k] w fun e w' => e = .returned (.tuple #[.int .u64 (n : Int), .agg #[.string y, .bool z]]) ∧ Below w.heap.size w w' := by
  by_cases hk : 1 ≤ k ∧ k ≤ 8
  · obtain ⟨j, rfl⟩ := Int.eq_ofNat_of_zero_le (show 0 ≤ k by omega)
    rw [number_in s b j hk] at h
    obtain ⟨x, y', z', hx⟩ : ∃ x y' z', next s b j = (x, y', z') := ⟨_, _, _, rfl⟩
    rw [hx] at h
    obtain ⟨rfl, rfl, rfl⟩ : val x.data.toList = n ∧ y' = y ∧ z' = z := by simpa using h
    exact number_in_any s b j (by omega) (by omega) x y' z' hx hs w
  · rw [number_out s b k hk] at h
    obtain ⟨rfl, rfl, rfl⟩ : 0 = n ∧ (⟨#[]⟩ : ByteArray) = y ∧ true = z := by simpa using h
    exact number_out_any s b k hk w

theorem refnumber_out_any (s : ByteArray) (b : Bool) (k : Int) (h : ¬(1 ≤ k ∧ k ≤ 8)) (w : World) :
    Calls Tryd.prog 42 #[.agg #[.string s, .bool b], .int .i64 k] w fun e w' => e = .returned (.tuple #[.int .u64 0, .agg #[.string ⟨#[]⟩, .bool true]]) ∧ Below w.heap.size w w' := by
  by_cases h1 : 1 ≤ k
  case' pos => have h2 : ¬ k ≤ 8 := fun c => h ⟨h1, c⟩
  all_goals
    clear h
    go_enter Tryd.func42, Tryd.ntmps42
    go_wp2
    exact bodyPost_ret (v := .tuple #[.int .u64 0, .agg #[.string ⟨#[]⟩, .bool true]]) (by simp [results, Tryd.results42, go_sem]) rfl ⟨rfl, ((Below.refl _ _).alloc (Nat.le_refl _) _).alloc (by simp) _⟩

theorem refnumber_in_any (s : ByteArray) (b : Bool) (k : Nat) (h1 : 1 ≤ k) (h8 : k ≤ 8) (x y : ByteArray) (z : Bool) (h : next s b k = (x, y, z)) (hs : s.size ≤ maxLen) (w : World) :
    Calls Tryd.prog 42 #[.agg #[.string s, .bool b], .int .i64 (k : Int)] w fun e w' => e = .returned (.tuple #[.int .u64 (val x.data.toList : Nat), .agg #[.string y, .bool z]]) ∧ Below w.heap.size w w' := by
  have hx : x.size ≤ 8 := by
    have := next_len s b k
    rw [h] at this
    simp at this
    omega
  have H := Lib.hid h
  clear h
  go_enter Tryd.func42, Tryd.ntmps42
  go_wp2_with fail
  refine (refbytes_any s b k x y z H.out hs _).mono ?_
  rintro e w1 ⟨rfl, hb⟩
  obtain ⟨ha, hd, hbW⟩ := boxes hb
  clear hb
  have ⟨A0, A1, A2, A3, A4⟩ := ha
  go_wp2_with fail
  have hn := Box.new w1 y z 52
  have hd' := hd.alloc (.cells #[.string y, .bool z] 52)
  have hbW' := hbW.alloc (Nat.le_of_lt A0) (.cells #[.string y, .bool z] 52)
  have hgt := hd.1
  clear A0 A1 A2 A3 A4 ha hd hbW
  generalize w1.alloc (.cells #[.string y, .bool z] 52) = W at *
  generalize w1.heap.size = g at *
  have hx' : x.size ≤ 9223372036854775807 := by omega
  go_loop [8, 9] (fun n i => ∃ j : Nat, j ≤ x.size ∧ i = .int .i64 ((j : Int) - 1) ∧ n = .int .u64 (val (x.data.toList.drop j) : Nat)) (fun _ i => (intOf i + 1).toNat)
  case atStart => exact ⟨x.size, Nat.le_refl _, rfl, by rw [List.drop_of_length_le (by simp)]; rfl⟩
  case round =>
    obtain ⟨j, hj, hi, rfl⟩ := hrel
    have hl : (x.data.toList.drop j).length = x.size - j := by rw [List.length_drop]; simp
    cases j with
    | succ j =>
      obtain rfl := hi.trans (show Value.int .i64 (((j + 1 : Nat) : Int) - 1) = .int .i64 (j : Int) by go_num)
      clear hi
      have HO := Lib.hid (or_low (x.data.toList.drop (j + 1)) x[j] (by omega))
      have HT := Lib.hid (drop_cons x j (by omega))
      have hlt : j < x.size := by omega
      clear hl
      go_wp2
      refine ⟨⟨j, by omega, rfl, ?_⟩, by simp [intOf]⟩
      rw [HO.out, HT.out]
    | zero =>
      obtain rfl := hi.trans (show Value.int .i64 (((0 : Nat) : Int) - 1) = .int .i64 (-1) by go_num)
      clear hi hl
      have ⟨A0, A1, A2, A3, A4⟩ := hn
      have ⟨D0, D1, D2, D3, D4⟩ := hd'
      go_wp2
      go_region
      go_wp2
      have hbE := (((hbW'.drew).setCell (p := ⟨w.heap.size + 1, 0, none⟩) (by simp) (.string y)).setCell (p := ⟨w.heap.size + 1, 1, none⟩) (by simp) (.bool z))
      exact bodyPost_ret (v := .tuple #[.int .u64 (val x.data.toList : Nat), .agg #[.string y, .bool z]]) (by simp [results, Tryd.results42, go_sem, D1, D2]) rfl ⟨rfl, hbE⟩

theorem refnumber_any (s : ByteArray) (b : Bool) (k : Int) (n : Nat) (y : ByteArray) (z : Bool) (h : number s b k = (n, y, z)) (hs : s.size ≤ maxLen) (w : World) :
    Calls Tryd.prog 42 #[.agg #[.string s, .bool b], .int .i64 k] w fun e w' => e = .returned (.tuple #[.int .u64 (n : Int), .agg #[.string y, .bool z]]) ∧ Below w.heap.size w w' := by
  by_cases hk : 1 ≤ k ∧ k ≤ 8
  · obtain ⟨j, rfl⟩ := Int.eq_ofNat_of_zero_le (show 0 ≤ k by omega)
    rw [number_in s b j hk] at h
    obtain ⟨x, y', z', hx⟩ : ∃ x y' z', next s b j = (x, y', z') := ⟨_, _, _, rfl⟩
    rw [hx] at h
    obtain ⟨rfl, rfl, rfl⟩ : val x.data.toList = n ∧ y' = y ∧ z' = z := by simpa using h
    exact refnumber_in_any s b j (by omega) (by omega) x y' z' hx hs w
  · rw [number_out s b k hk] at h
    obtain ⟨rfl, rfl, rfl⟩ : 0 = n ∧ (⟨#[]⟩ : ByteArray) = y ∧ true = z := by simpa using h
    exact refnumber_out_any s b k hk w
end Go.Proofs.YtkemljpjfbmjgaaDoor.Pk
