/-
  Proved: for every number, size, text, flag, rest and cut the law PackBack returns true and leaves its inputs as they were. No condition beyond the form's own reach (each text at most 2^47 - 4096 bytes).
-/
import Derived.Test.YtmigofcicipejaaPackE
import Derived.Test.YtmigofcicipejaaPackL
import Derived.WalkKit
import Derived.ProofKit
import Derived.OpenShut
import Derived.ShutString
import Derived.SizedLaws
import Derived.ChangeOld
import Derived.Below
namespace Go.Proofs.Ytmigofcicipejaa.packBack
open Go.ChangeShapes Go.WideShapes Go.ChangeAt Go.RowKit
open Go.ChangeMaps (open_string shut_string)
set_option linter.unusedVariables false

theorem own : ownKnob Try.prog.godebug = none := by kernel_rfl
theorem laidOut : laidOutB Try.prog = true := by kernel_rfl

/-- WHAT THE WALK IS TOLD OF A SLICE OF INTEGERS THAT CAME IN: it is nil; or it leads to a row of 'cap' cells, the numbers 'zs' (the first 'len' are its elements, the rest its spare room), each fitting its kind. -/
def IsRow (k : IntKind) (w : World) (a : Option Addr) (len cap : Nat) (zs : List Int) : Prop :=
  (a = none ∧ len = 0 ∧ cap = 0 ∧ zs = []) ∨
  ∃ x, a = some x ∧ len ≤ cap ∧ cap ≤ maxLen ∧ zs.length = cap ∧ (∀ i, i < zs.length → w.cell? (x.add i) = some (.int k (zs.getD i 0))) ∧ ∀ n ∈ zs, (Lit.int k n).wf = true

set_option maxRecDepth 100000 in
set_option maxHeartbeats 4000000 in
theorem walk (a0 : Int) (a1 : Int) (a2 : ByteArray) (a3 : Bool) (a4 : ByteArray) (a5 : Int) (w : World) (w0 : (Lit.int .u64 a0).wf = true) (w1 : (Lit.int .u8 a1).wf = true) (w2 : a2.size ≤ 140737488351232) (w4 : a4.size ≤ 140737488351232) (w5 : (Lit.int .u16 a5).wf = true) :
    Calls Try.prog 4 #[.int .u64 a0, .int .u8 a1, .string a2, .bool a3, .string a4, .int .u16 a5] w fun e w' => e = .returned (.bool true) ∧ Below w.heap.size w w' := by
  have hb0 : 0 ≤ a0 ∧ a0 ≤ 18446744073709551615 := by simpa [Lit.wf, IntKind.min, IntKind.max, IntKind.signed, IntKind.bits] using w0
  have hb1 : 0 ≤ a1 ∧ a1 ≤ 255 := by simpa [Lit.wf, IntKind.min, IntKind.max, IntKind.signed, IntKind.bits] using w1
  have hb5 : 0 ≤ a5 ∧ a5 ≤ 65535 := by simpa [Lit.wf, IntKind.min, IntKind.max, IntKind.signed, IntKind.bits] using w5
  obtain ⟨n0, rfl⟩ := Int.eq_ofNat_of_zero_le hb0.1
  obtain ⟨n1, rfl⟩ := Int.eq_ofNat_of_zero_le hb1.1
  obtain ⟨n5, rfl⟩ := Int.eq_ofNat_of_zero_le hb5.1
  obtain ⟨r, hr⟩ : ∃ r, n1 % 8 = r := ⟨_, rfl⟩
  have hr8 : r < 8 := by omega
  have hr' : (n1 : Int) % 8 = (r : Int) := by omega
  by_cases h7 : r < 7
  · have hpow := Pk.pow8_le (1 + r) (by omega)
    have hpos : 0 < 256 ^ (1 + r) := Nat.pow_pos (by omega)
    obtain ⟨P, hP⟩ : ∃ P, 256 ^ (1 + r) = P := ⟨_, rfl⟩
    have hwr : IntKind.u64.wrap (2 ^ (8 * (1 + r))) = (P : Int) := by
      have hlt : 256 ^ (1 + r) < 18446744073709551616 := Nat.lt_of_lt_of_le (Nat.pow_lt_pow_right (by omega) (show 1 + r < 8 by omega)) (Pk.pow8_le 8 (by omega))
      have := Pk.wrap64 (256 ^ (1 + r)) hlt
      rw [hP] at this
      rw [← this, ← hP, Pk.pow8]
      simp
    rw [hP] at hpos hpow
    obtain ⟨A, hA⟩ : ∃ A, n0 % P = A := ⟨_, rfl⟩
    have hAP : A < P := by rw [← hA]; exact Nat.mod_lt _ hpos
    have HA := Lib.hid (show ((n0 : Int) % (P : Int)) = (A : Int) by rw [← hA]; simp)
    have hAK : A < 256 ^ (1 + r) := by rw [hP]; exact hAP
    clear hA hP
    have hA : A < 18446744073709551616 := by omega
    by_cases h300 : a2.size ≤ 300
    · obtain ⟨S, rfl⟩ : ∃ S, S = a2 := ⟨_, rfl⟩
      obtain ⟨T, N, NT, F, ALL, R0, R1, R2, c, C, n4, s4, z4, x5, s5, z5, f6, s6, D⟩ := Pk.back_data A (1 + r) n5 S a3 a4 (by omega) (by omega) hAK (by omega)
      have q1 := D.sz1
      have q2 := D.sz2
      have q3 := D.sz3
      have q4 := D.sz4
      have q5 := D.sz5
      have q6 := D.sz6
      have q7 := D.c2
      have q8 := D.C2
      have q9 := D.sz7
      have q10 := D.sz8
      have q11 := D.sz9
      have hR0 : R0.size ≤ 281474976710656 := by omega
      have hR1 : R1.size ≤ 281474976710656 := by omega
      have hR2 : R2.size ≤ maxLen := by unfold maxLen; omega
      have hR0m : R0.size ≤ maxLen := by unfold maxLen; omega
      have hCm : C.size ≤ maxLen := by unfold maxLen; omega
      have hs4 : s4.size ≤ 281474976710656 := by omega
      have hs5 : s5.size ≤ maxLen := by unfold maxLen; omega
      have hs6 : s6.size ≤ 281474976710656 := by omega
      have hcat : ALL.size + a4.size ≤ 9223372036854775807 := by omega
      have hAp : 0 < ALL.size := by omega
      have hAp2 : ALL.size ≤ 400 := by omega
      have eNT := D.NT1
      have eALL := D.ALL1
      have eR0 := D.R01
      have eC := D.C1
      have hne : ¬ ALL.toList = [] := by rw [ByteArray.toList_eq]; intro h; exact absurd (Pk.size_of_nil ALL h) (by omega)
      have hne' : ALL.toList.isEmpty = false := by rw [Bool.eq_false_iff, ne_eq, List.isEmpty_iff]; exact hne
      have hNTm : N.size + T.size ≤ 9223372036854775807 := by omega
      have hNFm : NT.size + F.size ≤ 9223372036854775807 := by omega
      have hc1 := D.c1
      have hc2 : (n5 : Int) % (ALL.size : Int) = (c : Int) := by rw [← D.c1]; simp
      have hdone : Pk.done a4 false = a4.toList.isEmpty := by simp [Pk.done]
      have HD := Lib.hid hdone
      clear q1 q3 q4 q5 q6 q8 q9 q10 q11 hdone
      go_enter Try.func4, Try.ntmps4
      go_wp2_with fail
      refine (Pk.examples_any _).mono ?_
      rintro e x1 ⟨rfl, hb⟩
      have bel1 : Below w.heap.size w x1 := hb
      clear hb 
      go_wp2_with fail
      rw [HA.out]
      refine (Pk.puttext_any S T true D.T1 (by omega) _).mono ?_
      rintro e x2 ⟨rfl, hb⟩
      have bel2 : Below w.heap.size w x2 := (bel1.trans (hb.mono bel1.size))
      clear hb bel1
      go_wp2_with fail
      refine (Pk.put_any A (1 + (r : Int)) hA _).mono ?_
      rintro e x3 ⟨rfl, hb⟩
      have bel3 : Below w.heap.size w x3 := (bel2.trans (hb.mono bel2.size))
      clear hb bel2
      rw [show Pk.numB A (1 + (r : Int)) = N from D.N1]
      go_wp2_with fail
      refine (Pk.putflag_any a3 _).mono ?_
      rintro e x4 ⟨rfl, hb⟩
      have bel4 : Below w.heap.size w x4 := (bel3.trans (hb.mono bel3.size))
      clear hb bel3
      rw [D.F1]
      go_wp2_with fail
      refine (Pk.number_any R0 false (1 + (r : Int)) _ _ _ (show Pk.number R0 false (1 + (r : Int)) = (A, R1, false) from D.num) hR0m _).mono ?_
      rintro e x5 ⟨rfl, hb⟩
      have bel5 : Below w.heap.size w (x5.alloc (.cells #[.string R1, .bool false] 23)) := (bel4.trans (hb.mono bel4.size)).alloc (Nat.le_trans bel4.size hb.size) _
      clear hb bel4
      go_wp2_with fail
      generalize x5.alloc (.cells #[.string R1, .bool false] 23) = X5 at *
      generalize x5.heap.size = gr at *
      refine (Pk.text_any R1 false _ _ _ D.txt hR1 _).mono ?_
      rintro e x6 ⟨rfl, hb⟩
      have bel6 : Below w.heap.size w (x6.alloc (.cells #[.string R2, .bool false] 23)) := (bel5.trans (hb.mono bel5.size)).alloc (Nat.le_trans bel5.size hb.size) _
      clear hb bel5
      go_wp2_with fail
      generalize x6.alloc (.cells #[.string R2, .bool false] 23) = X6 at *
      generalize x6.heap.size = gr2 at *
      refine (Pk.flag_any R2 false _ _ _ D.flg hR2 _).mono ?_
      rintro e x7 ⟨rfl, hb⟩
      have bel7 : Below w.heap.size w (x7.alloc (.cells #[.string a4, .bool false] 23)) := (bel6.trans (hb.mono bel6.size)).alloc (Nat.le_trans bel6.size hb.size) _
      clear hb bel6
      have r3 := Pk.Box.new x7 a4 false 23
      go_wp2_with fail
      generalize x7.alloc (.cells #[.string a4, .bool false] 23) = X7 at *
      generalize x7.heap.size = gr3 at *
      refine (Pk.number_any C false (1 + (r : Int)) _ _ _ (show Pk.number C false (1 + (r : Int)) = (n4, s4, z4) from D.num4) hCm _).mono ?_
      rintro e x8 ⟨rfl, hb⟩
      have bel8 : Below w.heap.size w (x8.alloc (.cells #[.string s4, .bool z4] 23)) := (bel7.trans (hb.mono bel7.size)).alloc (Nat.le_trans bel7.size hb.size) _
      have r3' := (r3.keep hb r3.1).alloc (.cells #[.string s4, .bool z4] 23)
      clear hb bel7 r3
      have r3 := r3'
      clear r3'
      go_wp2_with fail
      generalize x8.alloc (.cells #[.string s4, .bool z4] 23) = X8 at *
      generalize x8.heap.size = gc1 at *
      refine (Pk.text_any s4 z4 _ _ _ D.txt5 hs4 _).mono ?_
      rintro e x9 ⟨rfl, hb⟩
      have bel9 : Below w.heap.size w (x9.alloc (.cells #[.string s5, .bool z5] 23)) := (bel8.trans (hb.mono bel8.size)).alloc (Nat.le_trans bel8.size hb.size) _
      have r3' := (r3.keep hb r3.1).alloc (.cells #[.string s5, .bool z5] 23)
      clear hb bel8 r3
      have r3 := r3'
      clear r3'
      go_wp2_with fail
      generalize x9.alloc (.cells #[.string s5, .bool z5] 23) = X9 at *
      generalize x9.heap.size = gc2 at *
      refine (Pk.flag_any s5 z5 _ _ _ D.flg6 hs5 _).mono ?_
      rintro e x10 ⟨rfl, hb⟩
      have bel10 : Below w.heap.size w (x10.alloc (.cells #[.string s6, .bool true] 23)) := (bel9.trans (hb.mono bel9.size)).alloc (Nat.le_trans bel9.size hb.size) _
      have r3' := (r3.keep hb r3.1).alloc (.cells #[.string s6, .bool true] 23)
      clear hb bel9 r3
      have r3 := r3'
      clear r3'
      have c3 := Pk.Box.new x10 s6 true 23
      go_wp2_with fail
      generalize x10.alloc (.cells #[.string s6, .bool true] 23) = X10 at *
      generalize x10.heap.size = gc3 at *
      refine (Pk.bytes_any s6 true 0 _ _ _ (Pk.next_bad s6 0) hs6 _).mono ?_
      rintro e x11 ⟨rfl, hb⟩
      have bel11 : Below w.heap.size w x11 := (bel10.trans (hb.mono bel10.size))
      have r3' := r3.keep hb r3.1
      have c3' := c3.keep hb c3.1
      clear hb bel10 r3 c3
      have r3 := r3'
      clear r3'
      have c3 := c3'
      clear c3'
      have ⟨r3_0, r3_1, r3_2, r3_3, r3_4⟩ := r3
      have ⟨c3_0, c3_1, c3_2, c3_3, c3_4⟩ := c3
      go_wp2_with fail
      clear r3_0 r3_1 r3_2 r3_3 r3_4 c3_0 c3_1 c3_2 c3_3 c3_4
      have bel_z := bel11.alloc bel11.size (.cells #[.string ⟨#[]⟩, .bool true] 23)
      have r3' := r3.alloc (.cells #[.string ⟨#[]⟩, .bool true] 23)
      have c3' := c3.alloc (.cells #[.string ⟨#[]⟩, .bool true] 23)
      clear bel11 r3 c3
      have r3 := r3'
      clear r3'
      have c3 := c3'
      clear c3'
      have c4 := Pk.Box.new x11 ⟨#[]⟩ true 23
      generalize x11.alloc (.cells #[.string ⟨#[]⟩, .bool true] 23) = X11 at *
      generalize x11.heap.size = gc4 at *
      refine (Pk.done_any a4 false _).mono ?_
      rintro e x12 ⟨rfl, hb⟩
      have bel12 : Below w.heap.size w x12 := (bel_z.trans (hb.mono bel_z.size))
      have r3' := r3.keep hb r3.1
      have c3' := c3.keep hb c3.1
      have c4' := c4.keep hb c4.1
      clear hb bel_z r3 c3 c4
      have r3 := r3'
      clear r3'
      have c3 := c3'
      clear c3'
      have c4 := c4'
      clear c4'
      have ⟨r3_0, r3_1, r3_2, r3_3, r3_4⟩ := r3
      have ⟨c3_0, c3_1, c3_2, c3_3, c3_4⟩ := c3
      have ⟨c4_0, c4_1, c4_2, c4_3, c4_4⟩ := c4
      rw [HD.out]
      go_wp2_with fail
      refine (Pk.done_any ⟨#[]⟩ true _).mono ?_
      rintro e x13 ⟨rfl, hb⟩
      have bel13 : Below w.heap.size w x13 := (bel12.trans (hb.mono bel12.size))
      have r3' := r3.keep hb r3.1
      have c3' := c3.keep hb c3.1
      have c4' := c4.keep hb c4.1
      clear r3_0 r3_1 r3_2 r3_3 r3_4 c3_0 c3_1 c3_2 c3_3 c3_4 c4_0 c4_1 c4_2 c4_3 c4_4
      clear hb bel12 r3 c3 c4
      have r3 := r3'
      clear r3'
      have c3 := c3'
      clear c3'
      have c4 := c4'
      clear c4'
      rw [show Pk.done ⟨#[]⟩ true = false by decide +kernel]
      go_wp2
      go_ret
      exact ⟨rfl, bel13⟩
    · obtain ⟨S, hS1⟩ : ∃ S, a2.extract 0 300 = S := ⟨_, rfl⟩
      have hSz : S.size ≤ 300 := by rw [← hS1, Pk.size_extract0]; omega
      have HS1 := Lib.hid hS1
      clear hS1
      obtain ⟨T, N, NT, F, ALL, R0, R1, R2, c, C, n4, s4, z4, x5, s5, z5, f6, s6, D⟩ := Pk.back_data A (1 + r) n5 S a3 a4 (by omega) (by omega) hAK (by omega)
      have q1 := D.sz1
      have q2 := D.sz2
      have q3 := D.sz3
      have q4 := D.sz4
      have q5 := D.sz5
      have q6 := D.sz6
      have q7 := D.c2
      have q8 := D.C2
      have q9 := D.sz7
      have q10 := D.sz8
      have q11 := D.sz9
      have hR0 : R0.size ≤ 281474976710656 := by omega
      have hR1 : R1.size ≤ 281474976710656 := by omega
      have hR2 : R2.size ≤ maxLen := by unfold maxLen; omega
      have hR0m : R0.size ≤ maxLen := by unfold maxLen; omega
      have hCm : C.size ≤ maxLen := by unfold maxLen; omega
      have hs4 : s4.size ≤ 281474976710656 := by omega
      have hs5 : s5.size ≤ maxLen := by unfold maxLen; omega
      have hs6 : s6.size ≤ 281474976710656 := by omega
      have hcat : ALL.size + a4.size ≤ 9223372036854775807 := by omega
      have hAp : 0 < ALL.size := by omega
      have hAp2 : ALL.size ≤ 400 := by omega
      have eNT := D.NT1
      have eALL := D.ALL1
      have eR0 := D.R01
      have eC := D.C1
      have hne : ¬ ALL.toList = [] := by rw [ByteArray.toList_eq]; intro h; exact absurd (Pk.size_of_nil ALL h) (by omega)
      have hne' : ALL.toList.isEmpty = false := by rw [Bool.eq_false_iff, ne_eq, List.isEmpty_iff]; exact hne
      have hNTm : N.size + T.size ≤ 9223372036854775807 := by omega
      have hNFm : NT.size + F.size ≤ 9223372036854775807 := by omega
      have hc1 := D.c1
      have hc2 : (n5 : Int) % (ALL.size : Int) = (c : Int) := by rw [← D.c1]; simp
      have hdone : Pk.done a4 false = a4.toList.isEmpty := by simp [Pk.done]
      have HD := Lib.hid hdone
      clear q1 q3 q4 q5 q6 q8 q9 q10 q11 hdone
      go_enter Try.func4, Try.ntmps4
      go_wp2_with fail
      refine (Pk.examples_any _).mono ?_
      rintro e x1 ⟨rfl, hb⟩
      have bel1 : Below w.heap.size w x1 := hb
      clear hb 
      go_wp2_with fail
      rw [HS1.out]
      rw [HA.out]
      refine (Pk.puttext_any S T true D.T1 (by omega) _).mono ?_
      rintro e x2 ⟨rfl, hb⟩
      have bel2 : Below w.heap.size w x2 := (bel1.trans (hb.mono bel1.size))
      clear hb bel1
      go_wp2_with fail
      refine (Pk.put_any A (1 + (r : Int)) hA _).mono ?_
      rintro e x3 ⟨rfl, hb⟩
      have bel3 : Below w.heap.size w x3 := (bel2.trans (hb.mono bel2.size))
      clear hb bel2
      rw [show Pk.numB A (1 + (r : Int)) = N from D.N1]
      go_wp2_with fail
      refine (Pk.putflag_any a3 _).mono ?_
      rintro e x4 ⟨rfl, hb⟩
      have bel4 : Below w.heap.size w x4 := (bel3.trans (hb.mono bel3.size))
      clear hb bel3
      rw [D.F1]
      go_wp2_with fail
      refine (Pk.number_any R0 false (1 + (r : Int)) _ _ _ (show Pk.number R0 false (1 + (r : Int)) = (A, R1, false) from D.num) hR0m _).mono ?_
      rintro e x5 ⟨rfl, hb⟩
      have bel5 : Below w.heap.size w (x5.alloc (.cells #[.string R1, .bool false] 23)) := (bel4.trans (hb.mono bel4.size)).alloc (Nat.le_trans bel4.size hb.size) _
      clear hb bel4
      go_wp2_with fail
      generalize x5.alloc (.cells #[.string R1, .bool false] 23) = X5 at *
      generalize x5.heap.size = gr at *
      refine (Pk.text_any R1 false _ _ _ D.txt hR1 _).mono ?_
      rintro e x6 ⟨rfl, hb⟩
      have bel6 : Below w.heap.size w (x6.alloc (.cells #[.string R2, .bool false] 23)) := (bel5.trans (hb.mono bel5.size)).alloc (Nat.le_trans bel5.size hb.size) _
      clear hb bel5
      go_wp2_with fail
      generalize x6.alloc (.cells #[.string R2, .bool false] 23) = X6 at *
      generalize x6.heap.size = gr2 at *
      refine (Pk.flag_any R2 false _ _ _ D.flg hR2 _).mono ?_
      rintro e x7 ⟨rfl, hb⟩
      have bel7 : Below w.heap.size w (x7.alloc (.cells #[.string a4, .bool false] 23)) := (bel6.trans (hb.mono bel6.size)).alloc (Nat.le_trans bel6.size hb.size) _
      clear hb bel6
      have r3 := Pk.Box.new x7 a4 false 23
      go_wp2_with fail
      generalize x7.alloc (.cells #[.string a4, .bool false] 23) = X7 at *
      generalize x7.heap.size = gr3 at *
      refine (Pk.number_any C false (1 + (r : Int)) _ _ _ (show Pk.number C false (1 + (r : Int)) = (n4, s4, z4) from D.num4) hCm _).mono ?_
      rintro e x8 ⟨rfl, hb⟩
      have bel8 : Below w.heap.size w (x8.alloc (.cells #[.string s4, .bool z4] 23)) := (bel7.trans (hb.mono bel7.size)).alloc (Nat.le_trans bel7.size hb.size) _
      have r3' := (r3.keep hb r3.1).alloc (.cells #[.string s4, .bool z4] 23)
      clear hb bel7 r3
      have r3 := r3'
      clear r3'
      go_wp2_with fail
      generalize x8.alloc (.cells #[.string s4, .bool z4] 23) = X8 at *
      generalize x8.heap.size = gc1 at *
      refine (Pk.text_any s4 z4 _ _ _ D.txt5 hs4 _).mono ?_
      rintro e x9 ⟨rfl, hb⟩
      have bel9 : Below w.heap.size w (x9.alloc (.cells #[.string s5, .bool z5] 23)) := (bel8.trans (hb.mono bel8.size)).alloc (Nat.le_trans bel8.size hb.size) _
      have r3' := (r3.keep hb r3.1).alloc (.cells #[.string s5, .bool z5] 23)
      clear hb bel8 r3
      have r3 := r3'
      clear r3'
      go_wp2_with fail
      generalize x9.alloc (.cells #[.string s5, .bool z5] 23) = X9 at *
      generalize x9.heap.size = gc2 at *
      refine (Pk.flag_any s5 z5 _ _ _ D.flg6 hs5 _).mono ?_
      rintro e x10 ⟨rfl, hb⟩
      have bel10 : Below w.heap.size w (x10.alloc (.cells #[.string s6, .bool true] 23)) := (bel9.trans (hb.mono bel9.size)).alloc (Nat.le_trans bel9.size hb.size) _
      have r3' := (r3.keep hb r3.1).alloc (.cells #[.string s6, .bool true] 23)
      clear hb bel9 r3
      have r3 := r3'
      clear r3'
      have c3 := Pk.Box.new x10 s6 true 23
      go_wp2_with fail
      generalize x10.alloc (.cells #[.string s6, .bool true] 23) = X10 at *
      generalize x10.heap.size = gc3 at *
      refine (Pk.bytes_any s6 true 0 _ _ _ (Pk.next_bad s6 0) hs6 _).mono ?_
      rintro e x11 ⟨rfl, hb⟩
      have bel11 : Below w.heap.size w x11 := (bel10.trans (hb.mono bel10.size))
      have r3' := r3.keep hb r3.1
      have c3' := c3.keep hb c3.1
      clear hb bel10 r3 c3
      have r3 := r3'
      clear r3'
      have c3 := c3'
      clear c3'
      have ⟨r3_0, r3_1, r3_2, r3_3, r3_4⟩ := r3
      have ⟨c3_0, c3_1, c3_2, c3_3, c3_4⟩ := c3
      go_wp2_with fail
      clear r3_0 r3_1 r3_2 r3_3 r3_4 c3_0 c3_1 c3_2 c3_3 c3_4
      have bel_z := bel11.alloc bel11.size (.cells #[.string ⟨#[]⟩, .bool true] 23)
      have r3' := r3.alloc (.cells #[.string ⟨#[]⟩, .bool true] 23)
      have c3' := c3.alloc (.cells #[.string ⟨#[]⟩, .bool true] 23)
      clear bel11 r3 c3
      have r3 := r3'
      clear r3'
      have c3 := c3'
      clear c3'
      have c4 := Pk.Box.new x11 ⟨#[]⟩ true 23
      generalize x11.alloc (.cells #[.string ⟨#[]⟩, .bool true] 23) = X11 at *
      generalize x11.heap.size = gc4 at *
      refine (Pk.done_any a4 false _).mono ?_
      rintro e x12 ⟨rfl, hb⟩
      have bel12 : Below w.heap.size w x12 := (bel_z.trans (hb.mono bel_z.size))
      have r3' := r3.keep hb r3.1
      have c3' := c3.keep hb c3.1
      have c4' := c4.keep hb c4.1
      clear hb bel_z r3 c3 c4
      have r3 := r3'
      clear r3'
      have c3 := c3'
      clear c3'
      have c4 := c4'
      clear c4'
      have ⟨r3_0, r3_1, r3_2, r3_3, r3_4⟩ := r3
      have ⟨c3_0, c3_1, c3_2, c3_3, c3_4⟩ := c3
      have ⟨c4_0, c4_1, c4_2, c4_3, c4_4⟩ := c4
      rw [HD.out]
      go_wp2_with fail
      refine (Pk.done_any ⟨#[]⟩ true _).mono ?_
      rintro e x13 ⟨rfl, hb⟩
      have bel13 : Below w.heap.size w x13 := (bel12.trans (hb.mono bel12.size))
      have r3' := r3.keep hb r3.1
      have c3' := c3.keep hb c3.1
      have c4' := c4.keep hb c4.1
      clear r3_0 r3_1 r3_2 r3_3 r3_4 c3_0 c3_1 c3_2 c3_3 c3_4 c4_0 c4_1 c4_2 c4_3 c4_4
      clear hb bel12 r3 c3 c4
      have r3 := r3'
      clear r3'
      have c3 := c3'
      clear c3'
      have c4 := c4'
      clear c4'
      rw [show Pk.done ⟨#[]⟩ true = false by decide +kernel]
      go_wp2
      go_ret
      exact ⟨rfl, bel13⟩
  · obtain rfl : r = 7 := by omega
    have hr' : (n1 : Int) % 8 = 7 := hr'
    have hA : n0 < 18446744073709551616 := by omega
    have hAK : n0 < 256 ^ 8 := hA
    clear h7
    by_cases h300 : a2.size ≤ 300
    · obtain ⟨S, rfl⟩ : ∃ S, S = a2 := ⟨_, rfl⟩
      obtain ⟨T, N, NT, F, ALL, R0, R1, R2, c, C, n4, s4, z4, x5, s5, z5, f6, s6, D⟩ := Pk.back_data n0 8 n5 S a3 a4 (by omega) (by omega) hAK (by omega)
      have q1 := D.sz1
      have q2 := D.sz2
      have q3 := D.sz3
      have q4 := D.sz4
      have q5 := D.sz5
      have q6 := D.sz6
      have q7 := D.c2
      have q8 := D.C2
      have q9 := D.sz7
      have q10 := D.sz8
      have q11 := D.sz9
      have hR0 : R0.size ≤ 281474976710656 := by omega
      have hR1 : R1.size ≤ 281474976710656 := by omega
      have hR2 : R2.size ≤ maxLen := by unfold maxLen; omega
      have hR0m : R0.size ≤ maxLen := by unfold maxLen; omega
      have hCm : C.size ≤ maxLen := by unfold maxLen; omega
      have hs4 : s4.size ≤ 281474976710656 := by omega
      have hs5 : s5.size ≤ maxLen := by unfold maxLen; omega
      have hs6 : s6.size ≤ 281474976710656 := by omega
      have hcat : ALL.size + a4.size ≤ 9223372036854775807 := by omega
      have hAp : 0 < ALL.size := by omega
      have hAp2 : ALL.size ≤ 400 := by omega
      have eNT := D.NT1
      have eALL := D.ALL1
      have eR0 := D.R01
      have eC := D.C1
      have hne : ¬ ALL.toList = [] := by rw [ByteArray.toList_eq]; intro h; exact absurd (Pk.size_of_nil ALL h) (by omega)
      have hne' : ALL.toList.isEmpty = false := by rw [Bool.eq_false_iff, ne_eq, List.isEmpty_iff]; exact hne
      have hNTm : N.size + T.size ≤ 9223372036854775807 := by omega
      have hNFm : NT.size + F.size ≤ 9223372036854775807 := by omega
      have hc1 := D.c1
      have hc2 : (n5 : Int) % (ALL.size : Int) = (c : Int) := by rw [← D.c1]; simp
      have hdone : Pk.done a4 false = a4.toList.isEmpty := by simp [Pk.done]
      have HD := Lib.hid hdone
      clear q1 q3 q4 q5 q6 q8 q9 q10 q11 hdone
      go_enter Try.func4, Try.ntmps4
      go_wp2_with fail
      refine (Pk.examples_any _).mono ?_
      rintro e x1 ⟨rfl, hb⟩
      have bel1 : Below w.heap.size w x1 := hb
      clear hb 
      go_wp2_with fail
      refine (Pk.puttext_any S T true D.T1 (by omega) _).mono ?_
      rintro e x2 ⟨rfl, hb⟩
      have bel2 : Below w.heap.size w x2 := (bel1.trans (hb.mono bel1.size))
      clear hb bel1
      go_wp2_with fail
      refine (Pk.put_any n0 8 hA _).mono ?_
      rintro e x3 ⟨rfl, hb⟩
      have bel3 : Below w.heap.size w x3 := (bel2.trans (hb.mono bel2.size))
      clear hb bel2
      rw [show Pk.numB n0 8 = N from D.N1]
      go_wp2_with fail
      refine (Pk.putflag_any a3 _).mono ?_
      rintro e x4 ⟨rfl, hb⟩
      have bel4 : Below w.heap.size w x4 := (bel3.trans (hb.mono bel3.size))
      clear hb bel3
      rw [D.F1]
      go_wp2_with fail
      refine (Pk.number_any R0 false 8 _ _ _ (show Pk.number R0 false 8 = (n0, R1, false) from D.num) hR0m _).mono ?_
      rintro e x5 ⟨rfl, hb⟩
      have bel5 : Below w.heap.size w (x5.alloc (.cells #[.string R1, .bool false] 23)) := (bel4.trans (hb.mono bel4.size)).alloc (Nat.le_trans bel4.size hb.size) _
      clear hb bel4
      go_wp2_with fail
      generalize x5.alloc (.cells #[.string R1, .bool false] 23) = X5 at *
      generalize x5.heap.size = gr at *
      refine (Pk.text_any R1 false _ _ _ D.txt hR1 _).mono ?_
      rintro e x6 ⟨rfl, hb⟩
      have bel6 : Below w.heap.size w (x6.alloc (.cells #[.string R2, .bool false] 23)) := (bel5.trans (hb.mono bel5.size)).alloc (Nat.le_trans bel5.size hb.size) _
      clear hb bel5
      go_wp2_with fail
      generalize x6.alloc (.cells #[.string R2, .bool false] 23) = X6 at *
      generalize x6.heap.size = gr2 at *
      refine (Pk.flag_any R2 false _ _ _ D.flg hR2 _).mono ?_
      rintro e x7 ⟨rfl, hb⟩
      have bel7 : Below w.heap.size w (x7.alloc (.cells #[.string a4, .bool false] 23)) := (bel6.trans (hb.mono bel6.size)).alloc (Nat.le_trans bel6.size hb.size) _
      clear hb bel6
      have r3 := Pk.Box.new x7 a4 false 23
      go_wp2_with fail
      generalize x7.alloc (.cells #[.string a4, .bool false] 23) = X7 at *
      generalize x7.heap.size = gr3 at *
      refine (Pk.number_any C false 8 _ _ _ (show Pk.number C false 8 = (n4, s4, z4) from D.num4) hCm _).mono ?_
      rintro e x8 ⟨rfl, hb⟩
      have bel8 : Below w.heap.size w (x8.alloc (.cells #[.string s4, .bool z4] 23)) := (bel7.trans (hb.mono bel7.size)).alloc (Nat.le_trans bel7.size hb.size) _
      have r3' := (r3.keep hb r3.1).alloc (.cells #[.string s4, .bool z4] 23)
      clear hb bel7 r3
      have r3 := r3'
      clear r3'
      go_wp2_with fail
      generalize x8.alloc (.cells #[.string s4, .bool z4] 23) = X8 at *
      generalize x8.heap.size = gc1 at *
      refine (Pk.text_any s4 z4 _ _ _ D.txt5 hs4 _).mono ?_
      rintro e x9 ⟨rfl, hb⟩
      have bel9 : Below w.heap.size w (x9.alloc (.cells #[.string s5, .bool z5] 23)) := (bel8.trans (hb.mono bel8.size)).alloc (Nat.le_trans bel8.size hb.size) _
      have r3' := (r3.keep hb r3.1).alloc (.cells #[.string s5, .bool z5] 23)
      clear hb bel8 r3
      have r3 := r3'
      clear r3'
      go_wp2_with fail
      generalize x9.alloc (.cells #[.string s5, .bool z5] 23) = X9 at *
      generalize x9.heap.size = gc2 at *
      refine (Pk.flag_any s5 z5 _ _ _ D.flg6 hs5 _).mono ?_
      rintro e x10 ⟨rfl, hb⟩
      have bel10 : Below w.heap.size w (x10.alloc (.cells #[.string s6, .bool true] 23)) := (bel9.trans (hb.mono bel9.size)).alloc (Nat.le_trans bel9.size hb.size) _
      have r3' := (r3.keep hb r3.1).alloc (.cells #[.string s6, .bool true] 23)
      clear hb bel9 r3
      have r3 := r3'
      clear r3'
      have c3 := Pk.Box.new x10 s6 true 23
      go_wp2_with fail
      generalize x10.alloc (.cells #[.string s6, .bool true] 23) = X10 at *
      generalize x10.heap.size = gc3 at *
      refine (Pk.bytes_any s6 true 0 _ _ _ (Pk.next_bad s6 0) hs6 _).mono ?_
      rintro e x11 ⟨rfl, hb⟩
      have bel11 : Below w.heap.size w x11 := (bel10.trans (hb.mono bel10.size))
      have r3' := r3.keep hb r3.1
      have c3' := c3.keep hb c3.1
      clear hb bel10 r3 c3
      have r3 := r3'
      clear r3'
      have c3 := c3'
      clear c3'
      have ⟨r3_0, r3_1, r3_2, r3_3, r3_4⟩ := r3
      have ⟨c3_0, c3_1, c3_2, c3_3, c3_4⟩ := c3
      go_wp2_with fail
      clear r3_0 r3_1 r3_2 r3_3 r3_4 c3_0 c3_1 c3_2 c3_3 c3_4
      have bel_z := bel11.alloc bel11.size (.cells #[.string ⟨#[]⟩, .bool true] 23)
      have r3' := r3.alloc (.cells #[.string ⟨#[]⟩, .bool true] 23)
      have c3' := c3.alloc (.cells #[.string ⟨#[]⟩, .bool true] 23)
      clear bel11 r3 c3
      have r3 := r3'
      clear r3'
      have c3 := c3'
      clear c3'
      have c4 := Pk.Box.new x11 ⟨#[]⟩ true 23
      generalize x11.alloc (.cells #[.string ⟨#[]⟩, .bool true] 23) = X11 at *
      generalize x11.heap.size = gc4 at *
      refine (Pk.done_any a4 false _).mono ?_
      rintro e x12 ⟨rfl, hb⟩
      have bel12 : Below w.heap.size w x12 := (bel_z.trans (hb.mono bel_z.size))
      have r3' := r3.keep hb r3.1
      have c3' := c3.keep hb c3.1
      have c4' := c4.keep hb c4.1
      clear hb bel_z r3 c3 c4
      have r3 := r3'
      clear r3'
      have c3 := c3'
      clear c3'
      have c4 := c4'
      clear c4'
      have ⟨r3_0, r3_1, r3_2, r3_3, r3_4⟩ := r3
      have ⟨c3_0, c3_1, c3_2, c3_3, c3_4⟩ := c3
      have ⟨c4_0, c4_1, c4_2, c4_3, c4_4⟩ := c4
      rw [HD.out]
      go_wp2_with fail
      refine (Pk.done_any ⟨#[]⟩ true _).mono ?_
      rintro e x13 ⟨rfl, hb⟩
      have bel13 : Below w.heap.size w x13 := (bel12.trans (hb.mono bel12.size))
      have r3' := r3.keep hb r3.1
      have c3' := c3.keep hb c3.1
      have c4' := c4.keep hb c4.1
      clear r3_0 r3_1 r3_2 r3_3 r3_4 c3_0 c3_1 c3_2 c3_3 c3_4 c4_0 c4_1 c4_2 c4_3 c4_4
      clear hb bel12 r3 c3 c4
      have r3 := r3'
      clear r3'
      have c3 := c3'
      clear c3'
      have c4 := c4'
      clear c4'
      rw [show Pk.done ⟨#[]⟩ true = false by decide +kernel]
      go_wp2
      go_ret
      exact ⟨rfl, bel13⟩
    · obtain ⟨S, hS1⟩ : ∃ S, a2.extract 0 300 = S := ⟨_, rfl⟩
      have hSz : S.size ≤ 300 := by rw [← hS1, Pk.size_extract0]; omega
      have HS1 := Lib.hid hS1
      clear hS1
      obtain ⟨T, N, NT, F, ALL, R0, R1, R2, c, C, n4, s4, z4, x5, s5, z5, f6, s6, D⟩ := Pk.back_data n0 8 n5 S a3 a4 (by omega) (by omega) hAK (by omega)
      have q1 := D.sz1
      have q2 := D.sz2
      have q3 := D.sz3
      have q4 := D.sz4
      have q5 := D.sz5
      have q6 := D.sz6
      have q7 := D.c2
      have q8 := D.C2
      have q9 := D.sz7
      have q10 := D.sz8
      have q11 := D.sz9
      have hR0 : R0.size ≤ 281474976710656 := by omega
      have hR1 : R1.size ≤ 281474976710656 := by omega
      have hR2 : R2.size ≤ maxLen := by unfold maxLen; omega
      have hR0m : R0.size ≤ maxLen := by unfold maxLen; omega
      have hCm : C.size ≤ maxLen := by unfold maxLen; omega
      have hs4 : s4.size ≤ 281474976710656 := by omega
      have hs5 : s5.size ≤ maxLen := by unfold maxLen; omega
      have hs6 : s6.size ≤ 281474976710656 := by omega
      have hcat : ALL.size + a4.size ≤ 9223372036854775807 := by omega
      have hAp : 0 < ALL.size := by omega
      have hAp2 : ALL.size ≤ 400 := by omega
      have eNT := D.NT1
      have eALL := D.ALL1
      have eR0 := D.R01
      have eC := D.C1
      have hne : ¬ ALL.toList = [] := by rw [ByteArray.toList_eq]; intro h; exact absurd (Pk.size_of_nil ALL h) (by omega)
      have hne' : ALL.toList.isEmpty = false := by rw [Bool.eq_false_iff, ne_eq, List.isEmpty_iff]; exact hne
      have hNTm : N.size + T.size ≤ 9223372036854775807 := by omega
      have hNFm : NT.size + F.size ≤ 9223372036854775807 := by omega
      have hc1 := D.c1
      have hc2 : (n5 : Int) % (ALL.size : Int) = (c : Int) := by rw [← D.c1]; simp
      have hdone : Pk.done a4 false = a4.toList.isEmpty := by simp [Pk.done]
      have HD := Lib.hid hdone
      clear q1 q3 q4 q5 q6 q8 q9 q10 q11 hdone
      go_enter Try.func4, Try.ntmps4
      go_wp2_with fail
      refine (Pk.examples_any _).mono ?_
      rintro e x1 ⟨rfl, hb⟩
      have bel1 : Below w.heap.size w x1 := hb
      clear hb 
      go_wp2_with fail
      rw [HS1.out]
      refine (Pk.puttext_any S T true D.T1 (by omega) _).mono ?_
      rintro e x2 ⟨rfl, hb⟩
      have bel2 : Below w.heap.size w x2 := (bel1.trans (hb.mono bel1.size))
      clear hb bel1
      go_wp2_with fail
      refine (Pk.put_any n0 8 hA _).mono ?_
      rintro e x3 ⟨rfl, hb⟩
      have bel3 : Below w.heap.size w x3 := (bel2.trans (hb.mono bel2.size))
      clear hb bel2
      rw [show Pk.numB n0 8 = N from D.N1]
      go_wp2_with fail
      refine (Pk.putflag_any a3 _).mono ?_
      rintro e x4 ⟨rfl, hb⟩
      have bel4 : Below w.heap.size w x4 := (bel3.trans (hb.mono bel3.size))
      clear hb bel3
      rw [D.F1]
      go_wp2_with fail
      refine (Pk.number_any R0 false 8 _ _ _ (show Pk.number R0 false 8 = (n0, R1, false) from D.num) hR0m _).mono ?_
      rintro e x5 ⟨rfl, hb⟩
      have bel5 : Below w.heap.size w (x5.alloc (.cells #[.string R1, .bool false] 23)) := (bel4.trans (hb.mono bel4.size)).alloc (Nat.le_trans bel4.size hb.size) _
      clear hb bel4
      go_wp2_with fail
      generalize x5.alloc (.cells #[.string R1, .bool false] 23) = X5 at *
      generalize x5.heap.size = gr at *
      refine (Pk.text_any R1 false _ _ _ D.txt hR1 _).mono ?_
      rintro e x6 ⟨rfl, hb⟩
      have bel6 : Below w.heap.size w (x6.alloc (.cells #[.string R2, .bool false] 23)) := (bel5.trans (hb.mono bel5.size)).alloc (Nat.le_trans bel5.size hb.size) _
      clear hb bel5
      go_wp2_with fail
      generalize x6.alloc (.cells #[.string R2, .bool false] 23) = X6 at *
      generalize x6.heap.size = gr2 at *
      refine (Pk.flag_any R2 false _ _ _ D.flg hR2 _).mono ?_
      rintro e x7 ⟨rfl, hb⟩
      have bel7 : Below w.heap.size w (x7.alloc (.cells #[.string a4, .bool false] 23)) := (bel6.trans (hb.mono bel6.size)).alloc (Nat.le_trans bel6.size hb.size) _
      clear hb bel6
      have r3 := Pk.Box.new x7 a4 false 23
      go_wp2_with fail
      generalize x7.alloc (.cells #[.string a4, .bool false] 23) = X7 at *
      generalize x7.heap.size = gr3 at *
      refine (Pk.number_any C false 8 _ _ _ (show Pk.number C false 8 = (n4, s4, z4) from D.num4) hCm _).mono ?_
      rintro e x8 ⟨rfl, hb⟩
      have bel8 : Below w.heap.size w (x8.alloc (.cells #[.string s4, .bool z4] 23)) := (bel7.trans (hb.mono bel7.size)).alloc (Nat.le_trans bel7.size hb.size) _
      have r3' := (r3.keep hb r3.1).alloc (.cells #[.string s4, .bool z4] 23)
      clear hb bel7 r3
      have r3 := r3'
      clear r3'
      go_wp2_with fail
      generalize x8.alloc (.cells #[.string s4, .bool z4] 23) = X8 at *
      generalize x8.heap.size = gc1 at *
      refine (Pk.text_any s4 z4 _ _ _ D.txt5 hs4 _).mono ?_
      rintro e x9 ⟨rfl, hb⟩
      have bel9 : Below w.heap.size w (x9.alloc (.cells #[.string s5, .bool z5] 23)) := (bel8.trans (hb.mono bel8.size)).alloc (Nat.le_trans bel8.size hb.size) _
      have r3' := (r3.keep hb r3.1).alloc (.cells #[.string s5, .bool z5] 23)
      clear hb bel8 r3
      have r3 := r3'
      clear r3'
      go_wp2_with fail
      generalize x9.alloc (.cells #[.string s5, .bool z5] 23) = X9 at *
      generalize x9.heap.size = gc2 at *
      refine (Pk.flag_any s5 z5 _ _ _ D.flg6 hs5 _).mono ?_
      rintro e x10 ⟨rfl, hb⟩
      have bel10 : Below w.heap.size w (x10.alloc (.cells #[.string s6, .bool true] 23)) := (bel9.trans (hb.mono bel9.size)).alloc (Nat.le_trans bel9.size hb.size) _
      have r3' := (r3.keep hb r3.1).alloc (.cells #[.string s6, .bool true] 23)
      clear hb bel9 r3
      have r3 := r3'
      clear r3'
      have c3 := Pk.Box.new x10 s6 true 23
      go_wp2_with fail
      generalize x10.alloc (.cells #[.string s6, .bool true] 23) = X10 at *
      generalize x10.heap.size = gc3 at *
      refine (Pk.bytes_any s6 true 0 _ _ _ (Pk.next_bad s6 0) hs6 _).mono ?_
      rintro e x11 ⟨rfl, hb⟩
      have bel11 : Below w.heap.size w x11 := (bel10.trans (hb.mono bel10.size))
      have r3' := r3.keep hb r3.1
      have c3' := c3.keep hb c3.1
      clear hb bel10 r3 c3
      have r3 := r3'
      clear r3'
      have c3 := c3'
      clear c3'
      have ⟨r3_0, r3_1, r3_2, r3_3, r3_4⟩ := r3
      have ⟨c3_0, c3_1, c3_2, c3_3, c3_4⟩ := c3
      go_wp2_with fail
      clear r3_0 r3_1 r3_2 r3_3 r3_4 c3_0 c3_1 c3_2 c3_3 c3_4
      have bel_z := bel11.alloc bel11.size (.cells #[.string ⟨#[]⟩, .bool true] 23)
      have r3' := r3.alloc (.cells #[.string ⟨#[]⟩, .bool true] 23)
      have c3' := c3.alloc (.cells #[.string ⟨#[]⟩, .bool true] 23)
      clear bel11 r3 c3
      have r3 := r3'
      clear r3'
      have c3 := c3'
      clear c3'
      have c4 := Pk.Box.new x11 ⟨#[]⟩ true 23
      generalize x11.alloc (.cells #[.string ⟨#[]⟩, .bool true] 23) = X11 at *
      generalize x11.heap.size = gc4 at *
      refine (Pk.done_any a4 false _).mono ?_
      rintro e x12 ⟨rfl, hb⟩
      have bel12 : Below w.heap.size w x12 := (bel_z.trans (hb.mono bel_z.size))
      have r3' := r3.keep hb r3.1
      have c3' := c3.keep hb c3.1
      have c4' := c4.keep hb c4.1
      clear hb bel_z r3 c3 c4
      have r3 := r3'
      clear r3'
      have c3 := c3'
      clear c3'
      have c4 := c4'
      clear c4'
      have ⟨r3_0, r3_1, r3_2, r3_3, r3_4⟩ := r3
      have ⟨c3_0, c3_1, c3_2, c3_3, c3_4⟩ := c3
      have ⟨c4_0, c4_1, c4_2, c4_3, c4_4⟩ := c4
      rw [HD.out]
      go_wp2_with fail
      refine (Pk.done_any ⟨#[]⟩ true _).mono ?_
      rintro e x13 ⟨rfl, hb⟩
      have bel13 : Below w.heap.size w x13 := (bel12.trans (hb.mono bel12.size))
      have r3' := r3.keep hb r3.1
      have c3' := c3.keep hb c3.1
      have c4' := c4.keep hb c4.1
      clear r3_0 r3_1 r3_2 r3_3 r3_4 c3_0 c3_1 c3_2 c3_3 c3_4 c4_0 c4_1 c4_2 c4_3 c4_4
      clear hb bel12 r3 c3 c4
      have r3 := r3'
      clear r3'
      have c3 := c3'
      clear c3'
      have c4 := c4'
      clear c4'
      rw [show Pk.done ⟨#[]⟩ true = false by decide +kernel]
      go_wp2
      go_ret
      exact ⟨rfl, bel13⟩

set_option maxRecDepth 100000 in
theorem lifted (os : Os) (started : os.Started) (H : Type) (enc : TypeId × Value → H) :
    ReturnsInHanded {} Try.checked os 4 .any (Rows.packBackSpec.pre6 enc Try.prog Try.f4 Rows.packBackRow.domain false) (Rows.packBackSpec.post enc Try.prog Try.f4 false true false false) := by
  refine returnsInHanded_of_change_sized (C := Try.checked) own started (by kernel_rfl) Try.func4
    (ChangeSpec.witness6 (enc := enc) (C := Try.checked) false ⟨#[], #[.int .u64 0, .int .u8 0, .string ByteArray.empty, .bool false, .string ByteArray.empty, .int .u16 0], []⟩ 8 (by kernel_rfl) (by kernel_rfl) (by kernel_rfl) (by kernel_rfl)) ?_
  intro W base args ds gs before hval0 hW hcnd hsz0 _
  have hval : ∀ (j : Nat) t v, Try.f4.params[j]? = some t → args[j]? = some v → Value.okWide Try.prog W .any base t v := hval0
  have hsz : (DataW.weightsEach Try.prog (Try.f4.params.toList ++ Rows.packBackSpec.plain.varTypes Try.prog) (ds ++ gs)).all (· ≤ reachBytes) = true := hsz0
  have hW' := hW
  obtain ⟨p, q, hA0, hV, rfl, hfz, hnd⟩ := hW
  have hA : DataW.TrodAll enc Try.prog W 0 (fun _ => true) true Try.f4.params.toList args.toList ds p := hA0
  rw [Try.params4] at hA hval hsz
  obtain ⟨v0, vs0, d0, ds0, p0, q0, hargs, rfl, rfl, h0, r0⟩ := trodAll_cons hA
  obtain ⟨v1, vs1, d1, ds1, p1, q1, rfl, rfl, rfl, h1, r1⟩ := trodAll_cons r0
  obtain ⟨v2, vs2, d2, ds2, p2, q2, rfl, rfl, rfl, h2, r2⟩ := trodAll_cons r1
  obtain ⟨v3, vs3, d3, ds3, p3, q3, rfl, rfl, rfl, h3, r3⟩ := trodAll_cons r2
  obtain ⟨v4, vs4, d4, ds4, p4, q4, rfl, rfl, rfl, h4, r4⟩ := trodAll_cons r3
  obtain ⟨v5, vs5, d5, ds5, p5, q5, rfl, rfl, rfl, h5, r5⟩ := trodAll_cons r4
  obtain ⟨rfl, rfl, rfl⟩ := trodAll_nil r5
  obtain rfl : args = #[v0, v1, v2, v3, v4, v5] := by cases args; simp_all
  obtain ⟨rfl, rfl⟩ := trodVars_none hV
  obtain ⟨a0, rfl, rfl, rfl, w0⟩ := open_int Try.underlying25 (hval 0 25 v0 rfl rfl) h0
  obtain ⟨a1, rfl, rfl, rfl, w1⟩ := open_int Try.underlying5 (hval 1 5 v1 rfl rfl) h1
  obtain ⟨a2, rfl, rfl, rfl, w2⟩ := open_string Try.underlying9 (hval 2 9 v2 rfl rfl) h2
  obtain ⟨a3, rfl, rfl, rfl⟩ := open_bool Try.underlying4 (hval 3 4 v3 rfl rfl) h3
  obtain ⟨a4, rfl, rfl, rfl, w4⟩ := open_string Try.underlying9 (hval 4 9 v4 rfl rfl) h4
  obtain ⟨a5, rfl, rfl, rfl, w5⟩ := open_int Try.underlying51 (hval 5 51 v5 rfl rfl) h5
  clear hA0 hval0
  have z2 : a2.size ≤ 140737488351232 := by
    have := sized_string hsz (j := 2) (t := 9) rfl rfl
    simp only [Array.length_toList, reachBytes] at this
    exact this
  have z4 : a4.size ≤ 140737488351232 := by
    have := sized_string hsz (j := 4) (t := 9) rfl rfl
    simp only [Array.length_toList, reachBytes] at this
    exact this
  refine (walk a0 a1 a2 a3 a4 a5 W w0 w1 z2 z4 w5).mono fun e W' ⟨he, bel⟩ => ?_
  subst he
  exact ⟨_, rfl, _, _, _, [], _, [], hW', trodAll_mk1 (shut_bool Try.underlying4 _), (trodAll_cons_mk (shut_int Try.underlying25 w0) (trodAll_cons_mk (shut_int Try.underlying5 w1) (trodAll_cons_mk (shut_string Try.underlying9 w2) (trodAll_cons_mk (shut_bool Try.underlying4 _) (trodAll_cons_mk (shut_string Try.underlying9 w4) (trodAll_cons_mk (shut_int Try.underlying51 w5) trodAll_mk0)))))), rfl, bel.frame _, fun h => by cases h⟩

theorem over : Rows.packBackRow.holds Try.pinned (OpenSpec.ofChange Rows.packBackSpec) :=
  OpenClaim.holds_of_wide 4 Try.f4 rfl rfl rfl rfl rfl rfl rfl ⟨rfl, rfl, rfl, rfl, rfl⟩ rfl rfl rfl rfl rfl (by kernel_rfl) Try.func4 (by kernel_rfl)
    (of_decide_eq_true (by kernel_rfl)) (by unfold Func.isWrapper; first | (rw [if_pos (by decide +kernel)]; kernel_rfl) | (rw [if_neg (by decide +kernel)]; exact ⟨rfl, rfl⟩))
    (fun os started H enc _ => lifted os started H enc)

theorem proved : Rows.PackBackSaid := over
end Go.Proofs.Ytmigofcicipejaa.packBack
