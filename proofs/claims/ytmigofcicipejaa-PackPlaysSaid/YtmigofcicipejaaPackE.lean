/-
  Contracts: the chapter's examples hold.
-/
import Derived.Test.YtmigofcicipejaaPackG
import Derived.Test.YtmigofcicipejaaPackL
namespace Go.Proofs.Ytmigofcicipejaa.Pk
open Go.RowKit

theorem ex_text : textB ⟨#[97, 98]⟩ = (⟨#[2, 0, 97, 98]⟩, true) := by decide +kernel
theorem ex_number : number ⟨#[2, 1, 120]⟩ false 2 = (258, ⟨#[120]⟩, false) := by decide +kernel
theorem ex_flag : flag ⟨#[1]⟩ false = (true, ⟨#[]⟩, false) := by decide +kernel
theorem ex_bad : flag ⟨#[2]⟩ false = (false, ⟨#[]⟩, true) := by decide +kernel
theorem ex_read : text ⟨#[2, 0, 97, 98, 99]⟩ false = (⟨#[97, 98]⟩, ⟨#[99]⟩, false) := by decide +kernel
theorem ex_put : numB 258 2 = ⟨#[2, 1]⟩ := by decide +kernel
theorem ex_done : done ⟨#[]⟩ false = true := by decide +kernel
theorem ex_put_any (w : World) : Calls Try.prog 20 #[.int .u64 258, .int .i64 2] w fun e w' => e = .returned (.string ⟨#[2, 1]⟩) ∧ Below w.heap.size w w' := by
  rw [← ex_put]; exact put_any 258 2 (by omega) w
theorem ex_done_any (w : World) : Calls Try.prog 16 #[.agg #[.string ⟨#[]⟩, .bool false]] w fun e w' => e = .returned (.bool true) ∧ Below w.heap.size w w' := by
  rw [← ex_done]; exact done_any ⟨#[]⟩ false w

theorem examples_any (w : World) : Calls Try.prog 7 #[] w fun e w' => e = .returned (.bool true) ∧ Below w.heap.size w w' := by
  go_enter Try.func7, Try.ntmps7
  go_wp2_with fail
  refine (puttext_any ⟨#[97, 98]⟩ _ _ ex_text (by decide) _).mono ?_
  rintro e w1 ⟨rfl, hb1⟩
  go_wp2_with fail
  refine (number_any ⟨#[2, 1, 120]⟩ false 2 _ _ _ ex_number (by decide) _).mono ?_
  rintro e w2 ⟨rfl, hb⟩
  have hb2 : Below w.heap.size w (w2.alloc (.cells #[.string ⟨#[120]⟩, .bool false] 23)) := (hb1.trans (hb.mono hb1.size)).alloc (Nat.le_trans hb1.size hb.size) _
  have k1 := Box.new w2 ⟨#[120]⟩ false 23
  clear hb hb1
  go_wp2_with fail
  generalize w2.alloc (.cells #[.string ⟨#[120]⟩, .bool false] 23) = W2 at *
  generalize w2.heap.size = g1 at *
  refine (flag_any ⟨#[1]⟩ false _ _ _ ex_flag (by decide) _).mono ?_
  rintro e w3 ⟨rfl, hb⟩
  have hb3 : Below w.heap.size w (w3.alloc (.cells #[.string ⟨#[]⟩, .bool false] 23)) := (hb2.trans (hb.mono hb2.size)).alloc (Nat.le_trans hb2.size hb.size) _
  have k1' := (k1.keep hb k1.1).alloc (.cells #[.string ⟨#[]⟩, .bool false] 23)
  have k2 := Box.new w3 ⟨#[]⟩ false 23
  clear hb hb2 k1
  go_wp2_with fail
  generalize w3.alloc (.cells #[.string ⟨#[]⟩, .bool false] 23) = W3 at *
  generalize w3.heap.size = g2 at *
  refine (flag_any ⟨#[2]⟩ false _ _ _ ex_bad (by decide) _).mono ?_
  rintro e w4 ⟨rfl, hb⟩
  have hb4 : Below w.heap.size w (w4.alloc (.cells #[.string ⟨#[]⟩, .bool true] 23)) := (hb3.trans (hb.mono hb3.size)).alloc (Nat.le_trans hb3.size hb.size) _
  have k1 := (k1'.keep hb k1'.1).alloc (.cells #[.string ⟨#[]⟩, .bool true] 23)
  have k2' := (k2.keep hb k2.1).alloc (.cells #[.string ⟨#[]⟩, .bool true] 23)
  have k3 := Box.new w4 ⟨#[]⟩ true 23
  clear hb hb3 k1' k2
  go_wp2_with fail
  generalize w4.alloc (.cells #[.string ⟨#[]⟩, .bool true] 23) = W4 at *
  generalize w4.heap.size = g3 at *
  refine (text_any ⟨#[2, 0, 97, 98, 99]⟩ false _ _ _ ex_read (by decide) _).mono ?_
  rintro e w5 ⟨rfl, hb⟩
  have hb5 : Below w.heap.size w (w5.alloc (.cells #[.string ⟨#[99]⟩, .bool false] 23)) := (hb4.trans (hb.mono hb4.size)).alloc (Nat.le_trans hb4.size hb.size) _
  have k1' := (k1.keep hb k1.1).alloc (.cells #[.string ⟨#[99]⟩, .bool false] 23)
  have k2 := (k2'.keep hb k2'.1).alloc (.cells #[.string ⟨#[99]⟩, .bool false] 23)
  have k3' := (k3.keep hb k3.1).alloc (.cells #[.string ⟨#[99]⟩, .bool false] 23)
  have k4 := Box.new w5 ⟨#[99]⟩ false 23
  clear hb hb4 k1 k2' k3
  go_wp2_with fail
  generalize w5.alloc (.cells #[.string ⟨#[99]⟩, .bool false] 23) = W5 at *
  generalize w5.heap.size = g4 at *
  refine (ex_put_any _).mono ?_
  rintro e w6 ⟨rfl, hb⟩
  have hb6 : Below w.heap.size w w6 := hb5.trans (hb.mono hb5.size)
  have k1 := k1'.keep hb k1'.1
  have k2' := k2.keep hb k2.1
  have k3 := k3'.keep hb k3'.1
  have k4' := k4.keep hb k4.1
  clear hb hb5 k1' k2 k3' k4
  have ⟨A0, A1, A2, A3, A4⟩ := k1
  have ⟨B0, B1, B2, B3, B4⟩ := k2'
  have ⟨C0, C1, C2, C3, C4⟩ := k3
  have ⟨D0, D1, D2, D3, D4⟩ := k4'
  go_wp2_with fail
  refine (ex_done_any _).mono ?_
  rintro e w7 ⟨rfl, hb⟩
  have hb7 : Below w.heap.size w w7 := hb6.trans (hb.mono hb6.size)
  have h3 := k3.keep hb k3.1
  have h4 := k4'.keep hb k4'.1
  clear hb hb6 k1 k2' k3 k4' A0 A1 A2 A3 A4 B0 B1 B2 B3 B4 C0 C1 C2 C3 C4 D0 D1 D2 D3 D4
  have ⟨C0, C1, C2, C3, C4⟩ := h3
  have ⟨D0, D1, D2, D3, D4⟩ := h4
  go_wp2_with fail
  refine (putflag_any true _).mono ?_
  rintro e w8 ⟨rfl, hb⟩
  have hb8 : Below w.heap.size w w8 := hb7.trans (hb.mono hb7.size)
  clear hb hb7 h3 h4 C0 C1 C2 C3 C4 D0 D1 D2 D3 D4
  rw [show flagB true = ⟨#[1]⟩ from rfl]
  go_wp2_with fail
  refine (putflag_any false _).mono ?_
  rintro e w9 ⟨rfl, hb⟩
  have hb9 : Below w.heap.size w w9 := hb8.trans (hb.mono hb8.size)
  clear hb hb8
  rw [show flagB false = ⟨#[0]⟩ from rfl]
  go_wp2
  go_ret
  exact ⟨rfl, hb9⟩

/-- the row that a literal of one byte lays -/
theorem one_byte (w : World) (v : UInt8) : Crc.Bytes (w.alloc (.cells #[.int .u8 (v.toNat : Int)] 5)) w.heap.size [v] := by
  intro j hj
  obtain rfl : j = 0 := by simpa using hj
  exact ⟨by simp, by simp⟩

theorem numB_head (n k : Nat) (s : ByteArray) (h1 : 1 ≤ k) (h8 : k ≤ 8) (hs : numB n (k : Int) = s) (h : 0 < s.size) : (IntKind.u64.wrap ((s[0].toNat : Nat) : Int) == (n : Int) % 256) = true := by
  have hb := s[0].toNat_lt
  rw [beq_iff_eq, wrap64 _ (by omega), numB_first n k s h1 h8 hs h]
  omega
end Go.Proofs.Ytmigofcicipejaa.Pk
