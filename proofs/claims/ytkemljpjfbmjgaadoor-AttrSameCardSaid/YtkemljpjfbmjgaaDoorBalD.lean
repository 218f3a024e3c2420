/-
  Contracts of numbers as digits: the library's FormatUint at base 10, the document's own. Conditions: as each says; the library's reads its table of powers of ten.
-/
import Derived.Test.YtkemljpjfbmjgaaDoorItoa
import Derived.Test.YtkemljpjfbmjgaaDoorCrcB
import Derived.Test.YtkemljpjfbmjgaaDoorPair
import Derived.Lib.AppendIntMem
import Derived.Lib.SmallJoins
import Derived.Lib.Hide
import Derived.ProofKit
namespace Go.Proofs.YtkemljpjfbmjgaaDoor.Bl
open Go.RowKit Go.Sort

/-- the library's table of powers of ten lies as it was laid -/
def Tab (w : World) : Prop := Lib.TabIs Tryd.prog w "internal/strconv.uint64pow10" .u64 Lib.pow10Tab
theorem tab_at : Tryd.prog.globalNamed "internal/strconv.uint64pow10" = some 0 := by kernel_rfl
theorem Tab.keep {w w' : World} {B : Nat} (h : Tab w) (hb : Below B w w') (hB : w.heap.size ≤ B) : Tab w' := Joins.tab_stays tab_at h hb hB
theorem Tab.over {w w' : World} (h : Tab w) (hb : Below w.heap.size w w') : Tab w' := h.keep hb (Nat.le_refl _)

set_option maxHeartbeats 1000000 in
set_option maxRecDepth 100000 in
theorem formatuint_any (u : Nat) (hu64 : u < 18446744073709551616) (w : World) (htab : Tab w) :
    Calls Tryd.prog 53 #[.int .u64 u, .int .i64 10] w fun e w' => e = .returned (.string ⟨(Lib.decDigits u).toArray⟩) ∧ Below w.heap.size w w' := by
  by_cases hs : u < 100
  · go_enter Tryd.func53, Tryd.ntmps53
    have c2 : IntKind.i64.wrap (u : Int) = (u : Int) := Go.IntWalk.i64_in _ (by omega)
    go_wp2_with (go_at_call 64; refine (Tryd.internal_strconv_small u hs _).mono ?_; rintro e w' ⟨rfl, rfl⟩)
    go_ret
    exact ⟨rfl, Below.refl _ _⟩
  · have hu1 : 1 ≤ u := by omega
    have hnd20 : Lib.nDigits u ≤ 20 := by have := Lib.numDigits_eq u hu1 hu64; split at this <;> omega
    have hal : Tryd.prog.arrayLen 117 = 24 := by kernel_rfl
    have hsl1 : ∀ W, (Instr.sliceAt 117 (.pointer (some ⟨w.heap.size, 0, none⟩)) none (some (.int .i64 (Lib.nDigits u : Int))) none).run Tryd.prog W = .ok (.slice (some ⟨w.heap.size, 0, none⟩) (Lib.nDigits u) 24) W := fun W => by
      rw [run_sliceAt_array_h W 117 ⟨w.heap.size, 0, none⟩ (by kernel_rfl) .i64 (Lib.nDigits u : Int) (by omega) (by rw [hal]; omega)]
      go_simp
    have hH0 : Holds (fun (b : UInt8) => Value.int .u8 (b.toNat : Int)) (w.alloc (.cells Lib.zeros24 117)) w.heap.size 0 (Array.replicate (Lib.nDigits u) (0 : UInt8)) := fun j hj => by
      have hj' : j < Lib.nDigits u := by simpa using hj
      refine ⟨?_, World.frozen?_alloc_new _ _ _ _⟩
      rw [World.cell?_alloc_new, Lib.zeros24_at _ (by omega), getElem!_pos _ j hj]
      simp
    have hfmt := Tryd.internal_strconv_formatBase10 w.heap.size 0 24 u (Array.replicate (Lib.nDigits u) 0) (w.alloc (.cells Lib.zeros24 117)) hH0 (by rw [Array.size_replicate]; exact Lib.lt_pow_nDigits u) hu64 (by rw [Array.size_replicate]; omega)
    rw [Array.size_replicate] at hfmt
    have HH0 := Lib.hid hH0
    clear hH0 hal
    go_enter Tryd.func53, Tryd.ntmps53
    go_wp2_with (go_at_call 65; refine (Tryd.internal_strconv_numDigits u hu1 hu64 _ (Lib.tabIs_alloc htab _)).mono ?_; rintro e w' ⟨rfl, rfl⟩)
    go_at_call 66
    refine hfmt.mono ?_
    rintro e w' ⟨rfl, k, v', dk, rfl, hF⟩
    have hcv : (convert 26 9 (.slice (some ⟨w.heap.size, 0, none⟩) (Lib.nDigits u) 24)).run Tryd.prog ((putRow (fun (b : UInt8) => Value.int .u8 (b.toNat : Int)) (w.alloc (.cells Lib.zeros24 117)) w.heap.size 0 dk).drewN k) = .ok (.string ⟨(Lib.decDigits u).toArray⟩) ((putRow (fun (b : UInt8) => Value.int .u8 (b.toNat : Int)) (w.alloc (.cells Lib.zeros24 117)) w.heap.size 0 dk).drewN k) := by
      have h := run_convert_bytes_back (P := Tryd.prog) ((putRow (fun (b : UInt8) => Value.int .u8 (b.toNat : Int)) (w.alloc (.cells Lib.zeros24 117)) w.heap.size 0 dk).drewN k) 26 9 5 ⟨w.heap.size, 0, none⟩ 24 (Lib.decDigits u) Tryd.underlying26 Tryd.underlying5 Tryd.underlying9 (fun j hj => by
        rw [Lib.row_is_numeral hF j hj, Lib.add_plain, World.cell?_drewN]
        exact cell?_putRow (fun (b : UInt8) => Value.int .u8 (b.toNat : Int)) _ w.heap.size 0 _ dk HH0.out (by rw [hF.size, Array.size_replicate]) j (by rw [hF.size]; rw [Lib.decDigits_length] at hj; exact hj))
      rw [Lib.decDigits_length] at h
      exact h
    have hbE : Below w.heap.size w ((putRow (fun (b : UInt8) => Value.int .u8 (b.toNat : Int)) (w.alloc (.cells Lib.zeros24 117)) w.heap.size 0 dk).drewN k) := by
      obtain ⟨os, eo⟩ := Lib.fin_at w (.cells Lib.zeros24 117) dk k 0
      rw [eo]; exact Lib.below_grow _ w (Nat.le_refl _) k os
    generalize (putRow (fun (b : UInt8) => Value.int .u8 (b.toNat : Int)) (w.alloc (.cells Lib.zeros24 117)) w.heap.size 0 dk).drewN k = W2 at hcv hbE ⊢
    clear HH0 hfmt
    go_wp2
    go_ret
    exact ⟨rfl, hbE⟩

theorem itoa_any (n : Int) (h0 : -9223372036854775808 ≤ n) (h1 : n ≤ 9223372036854775807) (w : World) (htab : Tab w) :
    Calls Tryd.prog 54 #[.int .i64 n] w fun e w' => e = .returned (.string ⟨(Lib.itoa n).toArray⟩) ∧ Below w.heap.size w w' := by
  refine (Tryd.strconv_Itoa n h0 h1 w htab).mono ?_
  rintro e w' ⟨rfl, k, os, rfl⟩
  exact ⟨rfl, Lib.below_grow _ w (Nat.le_refl _) k os⟩

theorem uint_any (u : Nat) (hu64 : u < 18446744073709551616) (w : World) (htab : Tab w) :
    Calls Tryd.prog 36 #[.int .u64 u, .int .i64 10] w fun e w' => e = .returned (.string ⟨(Lib.decDigits u).toArray⟩) ∧ Below w.heap.size w w' := by
  go_enter Tryd.func36, Tryd.ntmps36
  go_wp2_with fail
  refine (formatuint_any u hu64 _ htab).mono ?_
  rintro e w' ⟨rfl, hb⟩
  go_wp2
  go_ret
  exact ⟨rfl, hb⟩

/-- a literal of one byte, as text -/
theorem run_one (b : UInt8) (W : World) : (convert 26 9 (.slice (some ⟨W.heap.size, 0, none⟩) 1 1)).run Tryd.prog (W.alloc (.cells #[.int .u8 (b.toNat : Int)] 5)) = .ok (.string ⟨#[b]⟩) (W.alloc (.cells #[.int .u8 (b.toNat : Int)] 5)) := by
  have h := run_convert_bytes_back (P := Tryd.prog) (W.alloc (.cells #[.int .u8 (b.toNat : Int)] 5)) 26 9 5 ⟨W.heap.size, 0, none⟩ 1 [b] Tryd.underlying26 Tryd.underlying5 Tryd.underlying9 (fun j hj => by
    obtain rfl : j = 0 := by simpa using hj
    simp [Addr.add])
  exact h

def dig (v : Nat) : UInt8 := UInt8.ofNat (48 + v % 10)
theorem dig_val (v : Nat) : IntKind.u8.wrap (48 + (v : Int) % 10) = ((dig v).toNat : Int) := by
  have e : ∀ m : Int, IntKind.u8.wrap m = m % 256 := fun m => by simp [IntKind.wrap, IntKind.bits, IntKind.signed]
  rw [e, dig, UInt8.toNat_ofNat']; omega
theorem digits_last {v : Nat} (h : v < 10) : Lib.decDigits v = [dig v] := by
  rw [Lib.decDigits_one h, dig, Nat.mod_eq_of_lt h]
theorem digits_more {v : Nat} (h : ¬ v < 10) : Lib.decDigits v = Lib.decDigits (v / 10) ++ [dig v] := by
  rw [Lib.decDigits, dif_neg h, dig]
theorem cons_cat (b : UInt8) (l : List UInt8) : (⟨#[b]⟩ : ByteArray) ++ ⟨l.toArray⟩ = ⟨(b :: l).toArray⟩ := by
  apply ByteArray.ext
  rw [ByteArray.data_append]
  simp

set_option maxHeartbeats 1000000 in
theorem digits_any (u : Nat) (hu : u < 18446744073709551616) (w : World) :
    Calls Tryd.prog 38 #[.int .u64 u] w fun e w' => e = .returned (.string ⟨(Lib.decDigits u).toArray⟩) ∧ Below w.heap.size w w' := by
  have R := fun v W => run_one (dig v) W
  have D := dig_val
  have R0 := fun W => R u W
  have D0 := D u
  have HR := Lib.hid R
  have HD := Lib.hid D
  clear R D
  have hm : (u : Int) ≤ 18446744073709551615 := by omega
  go_enter Tryd.func38, Tryd.ntmps38
  go_wp2
  clear R0 D0
  have hlen : (Lib.decDigits u).length ≤ 20 := by
    rw [Lib.decDigits_length]
    by_cases h0 : u = 0
    · subst h0; decide +kernel
    · have := Lib.numDigits_eq u (by omega) hu; split at this <;> omega
  have HL := Lib.hid hlen
  clear hlen
  go_loopw [0, 3] (fun n s W => ∃ (v : Nat) (l : List UInt8), v ≤ u ∧ n = .int .u64 v ∧ s = .string ⟨(dig v :: l).toArray⟩ ∧ Hid (Lib.decDigits u = Lib.decDigits v ++ l) ∧ Below w.heap.size w W) (fun n _ _ => (intOf n).toNat)
  case atStart => exact ⟨u, [], Nat.le_refl _, rfl, rfl, Lib.hid (List.append_nil _).symm, below_1 _ _⟩
  case round =>
    obtain ⟨v, l, hv, rfl, rfl, hd, hb⟩ := hrel
    by_cases h9 : v < 10
    · have e : dig v :: l = Lib.decDigits u := by rw [hd.out, digits_last h9]; rfl
      have HE := Lib.hid e
      clear e
      go_wp2
      go_ret
      rw [HE.out]
      exact ⟨rfl, hb⟩
    · have R0 := fun W => HR.out (v / 10) W
      have hdv : ((dig (v / 10)).toNat : Int) = 48 + (v : Int) / 10 % 10 := by rw [dig, UInt8.toNat_ofNat']; omega
      rw [hdv] at R0
      clear hdv
      have hl : l.length ≤ 20 := by have := congrArg List.length hd.out; rw [List.length_append] at this; have := HL.out; omega
      have hs : (⟨(dig v :: l).toArray⟩ : ByteArray).size ≤ 21 := by
        show (dig v :: l).toArray.size ≤ 21
        simp only [List.size_toArray, List.length_cons]; omega
      have hz : (⟨#[dig (v / 10)]⟩ : ByteArray).size = 1 := rfl
      have HC := Lib.hid (cons_cat (dig (v / 10)) (dig v :: l))
      have HD2 : Hid (Lib.decDigits u = Lib.decDigits (v / 10) ++ dig v :: l) := by rw [hd.out, digits_more h9, List.append_assoc]; exact Lib.hid rfl
      clear hd hl
      generalize (⟨(dig v :: l).toArray⟩ : ByteArray) = S at *
      generalize (⟨#[dig (v / 10)]⟩ : ByteArray) = T at *
      go_wp2
      refine ⟨⟨v / 10, dig v :: l, by omega, by go_num, ?_, HD2, below_then hb (below_1 _ _) hb.size⟩, by simp [intOf]; omega⟩
      rw [HC.out]
end Go.Proofs.YtkemljpjfbmjgaaDoor.Bl
