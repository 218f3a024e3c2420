/-
  Contracts of the readers: Number.
-/
import Derived.Test.YtkemljpjfbmjgaaDoorPackR
import Derived.Laws.BitsAllLaws
namespace Go.Proofs.YtkemljpjfbmjgaaDoor.Pk
open Go.RowKit
set_option maxRecDepth 100000

theorem wrap64 (n : Nat) (h : n < 18446744073709551616) : IntKind.u64.wrap (n : Int) = (n : Int) := by
  have e : ∀ m : Int, IntKind.u64.wrap m = m % 18446744073709551616 := fun m => by simp [IntKind.wrap, IntKind.bits, IntKind.signed]
  rw [e]; omega

theorem pow8_le (j : Nat) (h : j ≤ 8) : 256 ^ j ≤ 18446744073709551616 := by
  have := Nat.pow_le_pow_right (n := 256) (by omega) h
  omega

theorem shl_lt (b : UInt8) (j : Nat) (h : j < 8) : b.toNat * 256 ^ j + 256 ^ j ≤ 18446744073709551616 := by
  have h1 := b.toNat_lt
  have h2 := pow8_le (j + 1) (by omega)
  have h3 : b.toNat * 256 ^ j ≤ 255 * 256 ^ j := Nat.mul_le_mul_right _ (by omega)
  rw [Nat.pow_succ] at h2
  omega

/-- a byte put on top -/
theorem or_top (l : List UInt8) (b : UInt8) (j : Nat) (hj : l.length = j) (h : j < 8) :
    bits .or .u64 ((val l : Nat) : Int) (IntKind.u64.wrap (IntKind.u64.wrap ((b.toNat : Nat) : Int) * 2 ^ (8 * j))) = ((val (l ++ [b]) : Nat) : Int) := by
  have h1 := b.toNat_lt
  have h2 := shl_lt b j h
  have h3 := val_lt l
  have hp : 0 < 256 ^ j := Nat.pow_pos (by omega)
  rw [hj] at h3
  have e1 : ((2 : Int) ^ (8 * j)) = ((256 ^ j : Nat) : Int) := by rw [pow8]; simp
  rw [wrap64 _ (by omega), e1, ← Int.natCast_mul, wrap64 _ (by omega), u64_or_nat _ _ (by omega) (by omega), val_snoc, hj, Nat.or_comm]
  have := nat_join (8 * j) (b.toNat * 256 ^ j) (val l) (by rw [pow8]; exact Nat.mul_mod_left _ _) (by rw [← pow8]; exact h3)
  rw [this, Nat.add_comm]

/-- a byte put below -/
theorem or_low (l : List UInt8) (b : UInt8) (h : l.length < 8) :
    bits .or .u64 (IntKind.u64.wrap (((val l : Nat) : Int) * 256)) (IntKind.u64.wrap ((b.toNat : Nat) : Int)) = ((val (b :: l) : Nat) : Int) := by
  have h1 := b.toNat_lt
  have h3 := val_lt (b :: l)
  have h2 := pow8_le (l.length + 1) (by omega)
  rw [List.length_cons] at h3
  have e : val (b :: l) = b.toNat + 256 * val l := rfl
  have e1 : (((val l : Nat) : Int) * 256) = ((256 * val l : Nat) : Int) := by omega
  rw [wrap64 _ (by omega), e1, wrap64 _ (by omega), u64_or_nat _ _ (by omega) (by omega), e, nat_join 8 (256 * val l) b.toNat (by omega) (by omega), Nat.add_comm]

theorem take_snoc (s : ByteArray) (k : Nat) (h : k < s.size) : s.data.toList.take (k + 1) = s.data.toList.take k ++ [s[k]] := by
  rw [List.take_succ_eq_append_getElem (by simpa using h)]; rfl

theorem drop_cons (s : ByteArray) (k : Nat) (h : k < s.size) : s.data.toList.drop k = s[k] :: s.data.toList.drop (k + 1) := by
  rw [List.drop_eq_getElem_cons (by simpa using h)]; rfl

theorem number_out_any (s : ByteArray) (b : Bool) (k : Int) (h : ¬(1 ≤ k ∧ k ≤ 8)) (w : World) :
    Calls Tryd.prog 40 #[.agg #[.string s, .bool b], .int .i64 k] w fun e w' => e = .returned (.tuple #[.int .u64 0, .agg #[.string ⟨#[]⟩, .bool true]]) ∧ Below w.heap.size w w' := by
  have H := Lib.hid h
  clear h
  go_enter Tryd.func40, Tryd.ntmps40
  go_wp2
  refine scope_ahead 0 rfl ?_
  go_wp2_with fail
  refine (size_no k H.out _).mono ?_
  rintro e w1 ⟨rfl, rfl⟩
  go_wp2_with fail
  go_step3
  refine ⟨rfl, ?_⟩
  go_wp2_with fail
  refine (spoilt_any _).mono ?_
  rintro e w1 ⟨rfl, hb⟩
  obtain ⟨ha, hd, hbW⟩ := boxes hb
  clear hb
  obtain ⟨D0, D1, D2, D3, D4⟩ := hd
  go_wp2
  rw [Exit.noGoto_ret]
  exact bodyPost_ret (v := .tuple #[.int .u64 0, .agg #[.string ⟨#[]⟩, .bool true]]) (by simp [results, Tryd.results40, go_sem, D1, D2]) rfl ⟨rfl, (hbW.setCell (by simp) _).setCell (by simp) _⟩

theorem number_in_any (s : ByteArray) (b : Bool) (k : Nat) (h1 : 1 ≤ k) (h8 : k ≤ 8) (x y : ByteArray) (z : Bool) (h : next s b k = (x, y, z)) (hs : s.size ≤ maxLen) (w : World) :
    Calls Tryd.prog 40 #[.agg #[.string s, .bool b], .int .i64 (k : Int)] w fun e w' => e = .returned (.tuple #[.int .u64 (val x.data.toList : Nat), .agg #[.string y, .bool z]]) ∧ Below w.heap.size w w' := by
  have hx : x.size ≤ 8 := by
    have := next_len s b k
    rw [h] at this
    simp at this
    omega
  have H := Lib.hid h
  clear h
  go_enter Tryd.func40, Tryd.ntmps40
  go_wp2
  go_step3
  go_wp2_with fail
  refine (size_yes (k : Int) ⟨by omega, by omega⟩ _).mono ?_
  rintro e w1 ⟨rfl, rfl⟩
  go_wp2_with fail
  refine (next_any s b k x y z H.out hs _).mono ?_
  rintro e w1 ⟨rfl, hb⟩
  obtain ⟨ha, hd, hbW⟩ := boxes hb
  clear hb
  have ⟨A0, A1, A2, A3, A4⟩ := ha
  go_wp2_with fail
  have ha' := ha.put y z
  have hd' := (hd.far ⟨w.heap.size, 0, none⟩ (by simp) (.string y)).far ⟨w.heap.size, 1, none⟩ (by simp) (.bool z)
  have hbW' := (hbW.setCell (p := ⟨w.heap.size, 0, none⟩) (Nat.le_refl _) (.string y)).setCell (p := ⟨w.heap.size, 1, none⟩) (Nat.le_refl _) (.bool z)
  clear A0 A1 A2 A3 A4 ha hd hbW
  generalize (w1.setCell ⟨w.heap.size, 0, none⟩ (.string y)).setCell ⟨w.heap.size, 1, none⟩ (.bool z) = W at *
  have hx' : x.size ≤ 9223372036854775807 := by omega
  go_loop [7, 20] (fun n i => ∃ j : Nat, j ≤ x.size ∧ i = .int .i64 j ∧ n = .int .u64 (val (x.data.toList.take j) : Nat)) (fun _ i => x.size - (intOf i).toNat)
  case atStart => exact ⟨0, Nat.zero_le _, rfl, rfl⟩
  case round =>
    obtain ⟨j, hj, rfl, rfl⟩ := hrel
    have hl : (x.data.toList.take j).length = j := by rw [List.length_take]; simp; omega
    by_cases hlt : j < x.size
    · have HO := Lib.hid (or_top (x.data.toList.take j) x[j] j hl (by omega))
      have HT := Lib.hid (take_snoc x j hlt)
      clear hl
      go_wp2
      refine ⟨⟨j + 1, by omega, by go_num, ?_⟩, by simp [intOf]; omega⟩
      rw [HO.out, HT.out]
    · have HT : Hid (x.data.toList.take j = x.data.toList) := by rw [List.take_of_length_le (by simp; omega)]; exact Lib.hid rfl
      clear hl
      have ⟨A0, A1, A2, A3, A4⟩ := ha'
      have ⟨D0, D1, D2, D3, D4⟩ := hd'
      go_wp2
      rw [HT.out]
      go_region
      go_wp2
      rw [Exit.noGoto_ret]
      have hbE := (((hbW'.drew).setCell (p := ⟨w.heap.size + 1, 0, none⟩) (by simp) (.string y)).setCell (p := ⟨w.heap.size + 1, 1, none⟩) (by simp) (.bool z))
      exact bodyPost_ret (v := .tuple #[.int .u64 (val x.data.toList : Nat), .agg #[.string y, .bool z]]) (by simp [results, Tryd.results40, go_sem, D1, D2]) rfl ⟨rfl, hbE⟩
end Go.Proofs.YtkemljpjfbmjgaaDoor.Pk
