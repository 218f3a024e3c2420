/-
  Contracts of the readers: Number in one, the document's Number, Text, Flag.
-/
import Derived.Test.YtolgboedinbpeaaDoorPackN
namespace Go.Proofs.YtolgboedinbpeaaDoor.Pk
open Go.RowKit
set_option maxRecDepth 100000

theorem number_any (s : ByteArray) (b : Bool) (k : Int) (n : Nat) (y : ByteArray) (z : Bool) (h : number s b k = (n, y, z)) (hs : s.size ≤ maxLen) (w : World) :
    Calls Tryd.prog 33 #[.agg #[.string s, .bool b], .int .i64 k] w fun e w' => e = .returned (.tuple #[.int .u64 (n : Int), .agg #[.string y, .bool z]]) ∧ Below w.heap.size w w' := by
  by_cases hk : 1 ≤ k ∧ k ≤ 8
  · obtain ⟨j, rfl⟩ := Int.eq_ofNat_of_zero_le (show 0 ≤ k by omega)
    rw [number_in s b j hk] at h
    obtain ⟨x, y', z', hx⟩ : ∃ x y' z', next s b j = (x, y', z') := ⟨_, _, _, rfl⟩
    rw [hx] at h
    obtain ⟨rfl, rfl, rfl⟩ : val x.data.toList = n ∧ y' = y ∧ z' = z := by simpa using h
    exact number_in_any s b j (by omega) (by omega) x y' z' hx hs w
  · rw [number_out s b k hk] at h
    obtain ⟨rfl, rfl, rfl⟩ : 0 = n ∧ (⟨#[]⟩ : ByteArray) = y ∧ true = z := by simpa using h
    exact number_out_any s b k hk w

theorem refnumber_out_any (s : ByteArray) (b : Bool) (k : Int) (h : ¬(1 ≤ k ∧ k ≤ 8)) (w : World) :
    Calls Tryd.prog 35 #[.agg #[.string s, .bool b], .int .i64 k] w fun e w' => e = .returned (.tuple #[.int .u64 0, .agg #[.string ⟨#[]⟩, .bool true]]) ∧ Below w.heap.size w w' := by
  by_cases h1 : 1 ≤ k
  case' pos => have h2 : ¬ k ≤ 8 := fun c => h ⟨h1, c⟩
  all_goals
    clear h
    go_enter Tryd.func35, Tryd.ntmps35
    go_wp2
    exact bodyPost_ret (v := .tuple #[.int .u64 0, .agg #[.string ⟨#[]⟩, .bool true]]) (by simp [results, Tryd.results35, go_sem]) rfl ⟨rfl, ((Below.refl _ _).alloc (Nat.le_refl _) _).alloc (by simp) _⟩

theorem refnumber_in_any (s : ByteArray) (b : Bool) (k : Nat) (h1 : 1 ≤ k) (h8 : k ≤ 8) (x y : ByteArray) (z : Bool) (h : next s b k = (x, y, z)) (hs : s.size ≤ maxLen) (w : World) :
    Calls Tryd.prog 35 #[.agg #[.string s, .bool b], .int .i64 (k : Int)] w fun e w' => e = .returned (.tuple #[.int .u64 (val x.data.toList : Nat), .agg #[.string y, .bool z]]) ∧ Below w.heap.size w w' := by
  have hx : x.size ≤ 8 := by
    have := next_len s b k
    rw [h] at this
    simp at this
    omega
  have H := Lib.hid h
  clear h
  go_enter Tryd.func35, Tryd.ntmps35
  go_wp2_with fail
  refine (refbytes_any s b k x y z H.out hs _).mono ?_
  rintro e w1 ⟨rfl, hb⟩
  obtain ⟨ha, hd, hbW⟩ := boxes hb
  clear hb
  have ⟨A0, A1, A2, A3, A4⟩ := ha
  go_wp2_with fail
  have hn := Box.new w1 y z 46
  have hd' := hd.alloc (.cells #[.string y, .bool z] 46)
  have hbW' := hbW.alloc (Nat.le_of_lt A0) (.cells #[.string y, .bool z] 46)
  have hgt := hd.1
  clear A0 A1 A2 A3 A4 ha hd hbW
  generalize w1.alloc (.cells #[.string y, .bool z] 46) = W at *
  generalize w1.heap.size = g at *
  have hx' : x.size ≤ 9223372036854775807 := by omega
  go_loop [8, 9] (fun n i => ∃ j : Nat, j ≤ x.size ∧ i = .int .i64 ((j : Int) - 1) ∧ n = .int .u64 (val (x.data.toList.drop j) : Nat)) (fun _ i => (intOf i + 1).toNat)
  case atStart => exact ⟨x.size, Nat.le_refl _, rfl, by rw [List.drop_of_length_le (by simp)]; rfl⟩
  case round =>
    obtain ⟨j, hj, hi, rfl⟩ := hrel
    have hl : (x.data.toList.drop j).length = x.size - j := by rw [List.length_drop]; simp
    cases j with
    | succ j =>
      obtain rfl := hi.trans (show Value.int .i64 (((j + 1 : Nat) : Int) - 1) = .int .i64 (j : Int) by go_num)
      clear hi
      have HO := Lib.hid (or_low (x.data.toList.drop (j + 1)) x[j] (by omega))
      have HT := Lib.hid (drop_cons x j (by omega))
      have hlt : j < x.size := by omega
      clear hl
      go_wp2
      refine ⟨⟨j, by omega, rfl, ?_⟩, by simp [intOf]⟩
      rw [HO.out, HT.out]
    | zero =>
      obtain rfl := hi.trans (show Value.int .i64 (((0 : Nat) : Int) - 1) = .int .i64 (-1) by go_num)
      clear hi hl
      have ⟨A0, A1, A2, A3, A4⟩ := hn
      have ⟨D0, D1, D2, D3, D4⟩ := hd'
      go_wp2
      go_region
      go_wp2
      have hbE := (((hbW'.drew).setCell (p := ⟨w.heap.size + 1, 0, none⟩) (by simp) (.string y)).setCell (p := ⟨w.heap.size + 1, 1, none⟩) (by simp) (.bool z))
      exact bodyPost_ret (v := .tuple #[.int .u64 (val x.data.toList : Nat), .agg #[.string y, .bool z]]) (by simp [results, Tryd.results35, go_sem, D1, D2]) rfl ⟨rfl, hbE⟩

theorem refnumber_any (s : ByteArray) (b : Bool) (k : Int) (n : Nat) (y : ByteArray) (z : Bool) (h : number s b k = (n, y, z)) (hs : s.size ≤ maxLen) (w : World) :
    Calls Tryd.prog 35 #[.agg #[.string s, .bool b], .int .i64 k] w fun e w' => e = .returned (.tuple #[.int .u64 (n : Int), .agg #[.string y, .bool z]]) ∧ Below w.heap.size w w' := by
  by_cases hk : 1 ≤ k ∧ k ≤ 8
  · obtain ⟨j, rfl⟩ := Int.eq_ofNat_of_zero_le (show 0 ≤ k by omega)
    rw [number_in s b j hk] at h
    obtain ⟨x, y', z', hx⟩ : ∃ x y' z', next s b j = (x, y', z') := ⟨_, _, _, rfl⟩
    rw [hx] at h
    obtain ⟨rfl, rfl, rfl⟩ : val x.data.toList = n ∧ y' = y ∧ z' = z := by simpa using h
    exact refnumber_in_any s b j (by omega) (by omega) x y' z' hx hs w
  · rw [number_out s b k hk] at h
    obtain ⟨rfl, rfl, rfl⟩ : 0 = n ∧ (⟨#[]⟩ : ByteArray) = y ∧ true = z := by simpa using h
    exact refnumber_out_any s b k hk w

theorem text_any (s : ByteArray) (b : Bool) (x y : ByteArray) (z : Bool) (h : text s b = (x, y, z)) (hs : s.size ≤ 281474976710656) (w : World) :
    Calls Tryd.prog 34 #[.agg #[.string s, .bool b]] w fun e w' => e = .returned (.tuple #[.string x, .agg #[.string y, .bool z]]) ∧ Below w.heap.size w w' := by
  have hm : s.size ≤ maxLen := by unfold maxLen; omega
  obtain ⟨n, y1, z1, h1⟩ : ∃ n y1 z1, number s b 2 = (n, y1, z1) := ⟨_, _, _, rfl⟩
  have hn : n < 65536 := by have := number_lt s b 2; rw [show ((2 : Nat) : Int) = 2 from rfl, h1] at this; exact this
  have hy : y1.size ≤ 281474976710656 := by have := number_size s b 2; rw [h1] at this; simp at this; omega
  unfold text at h
  rw [h1] at h
  have H := Lib.hid h
  have H1 := Lib.hid h1
  clear h h1
  go_enter Tryd.func34, Tryd.ntmps34
  go_wp2_with fail
  refine (number_any s b 2 n y1 z1 H1.out hm _).mono ?_
  rintro e w1 ⟨rfl, hb⟩
  obtain ⟨ha, hd, hbW⟩ := boxes hb
  clear hb
  have ⟨A0, A1, A2, A3, A4⟩ := ha
  go_wp2_with fail
  have ha' := ha.put y1 z1
  have hd' := (hd.far ⟨w.heap.size, 0, none⟩ (by simp) (.string y1)).far ⟨w.heap.size, 1, none⟩ (by simp) (.bool z1)
  have hbW' := (hbW.setCell (p := ⟨w.heap.size, 0, none⟩) (Nat.le_refl _) (.string y1)).setCell (p := ⟨w.heap.size, 1, none⟩) (Nat.le_refl _) (.bool z1)
  clear A0 A1 A2 A3 A4 ha hd hbW
  generalize (w1.setCell ⟨w.heap.size, 0, none⟩ (.string y1)).setCell ⟨w.heap.size, 1, none⟩ (.bool z1) = W at *
  have ⟨A0, A1, A2, A3, A4⟩ := ha'
  go_wp2_with fail
  refine (bytes_any y1 z1 n x y z H.out hy _).mono ?_
  rintro e w2 ⟨rfl, hb2⟩
  obtain ⟨E0, E1, E2, E3, E4⟩ := hd'.keep hb2 hd'.1
  have hbE := (((hbW'.trans (hb2.mono (Nat.le_of_lt A0))).setCell (p := ⟨w.heap.size + 1, 0, none⟩) (by simp) (.string y)).setCell (p := ⟨w.heap.size + 1, 1, none⟩) (by simp) (.bool z))
  clear hb2 A0 A1 A2 A3 A4
  go_wp2
  exact bodyPost_ret (v := .tuple #[.string x, .agg #[.string y, .bool z]]) (by simp [results, Tryd.results34, go_sem, E1, E2]) rfl ⟨rfl, hbE⟩

theorem reftext_any (s : ByteArray) (b : Bool) (x y : ByteArray) (z : Bool) (h : text s b = (x, y, z)) (hs : s.size ≤ 281474976710656) (w : World) :
    Calls Tryd.prog 36 #[.agg #[.string s, .bool b]] w fun e w' => e = .returned (.tuple #[.string x, .agg #[.string y, .bool z]]) ∧ Below w.heap.size w w' := by
  have hm : s.size ≤ maxLen := by unfold maxLen; omega
  obtain ⟨n, y1, z1, h1⟩ : ∃ n y1 z1, number s b 2 = (n, y1, z1) := ⟨_, _, _, rfl⟩
  have hn : n < 65536 := by have := number_lt s b 2; rw [show ((2 : Nat) : Int) = 2 from rfl, h1] at this; exact this
  have hy : y1.size ≤ maxLen := by have := number_size s b 2; rw [h1] at this; simp at this; unfold maxLen; omega
  unfold text at h
  rw [h1] at h
  have H := Lib.hid h
  have H1 := Lib.hid h1
  clear h h1
  go_enter Tryd.func36, Tryd.ntmps36
  go_wp2_with fail
  refine (refnumber_any s b 2 n y1 z1 H1.out hm _).mono ?_
  rintro e w1 ⟨rfl, hb⟩
  obtain ⟨ha, hd, hbW⟩ := boxes hb
  clear hb
  have ⟨A0, A1, A2, A3, A4⟩ := ha
  go_wp2_with fail
  have hn' := Box.new w1 y1 z1 46
  have hd' := hd.alloc (.cells #[.string y1, .bool z1] 46)
  have hbW' := hbW.alloc (Nat.le_of_lt A0) (.cells #[.string y1, .bool z1] 46)
  have hgt := hd.1
  clear A0 A1 A2 A3 A4 ha hd hbW
  generalize w1.alloc (.cells #[.string y1, .bool z1] 46) = W at *
  generalize w1.heap.size = g at *
  have ⟨A0, A1, A2, A3, A4⟩ := hn'
  go_wp2_with fail
  refine (refbytes_any y1 z1 n x y z H.out hy _).mono ?_
  rintro e w2 ⟨rfl, hb2⟩
  obtain ⟨E0, E1, E2, E3, E4⟩ := hd'.keep hb2 hd'.1
  have hbE := (((hbW'.trans (hb2.mono (by have := hd'.1; omega))).setCell (p := ⟨w.heap.size + 1, 0, none⟩) (by simp) (.string y)).setCell (p := ⟨w.heap.size + 1, 1, none⟩) (by simp) (.bool z))
  clear hb2 A0 A1 A2 A3 A4
  go_wp2
  exact bodyPost_ret (v := .tuple #[.string x, .agg #[.string y, .bool z]]) (by simp [results, Tryd.results36, go_sem, E1, E2]) rfl ⟨rfl, hbE⟩
end Go.Proofs.YtolgboedinbpeaaDoor.Pk
