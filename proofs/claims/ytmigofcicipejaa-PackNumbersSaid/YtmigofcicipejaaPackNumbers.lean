/-
  Proved: for every two numbers and every size the law PackNumbers returns true and leaves its inputs as they were. No condition beyond the form's own.
-/
import Derived.Test.YtmigofcicipejaaPackE
import Derived.Test.YtmigofcicipejaaPackL
import Derived.WalkKit
import Derived.ProofKit
import Derived.OpenShut
import Derived.ShutString
import Derived.SizedLaws
import Derived.ChangeOld
import Derived.Below
namespace Go.Proofs.Ytmigofcicipejaa.packNumbers
open Go.ChangeShapes Go.WideShapes Go.ChangeAt Go.RowKit
open Go.ChangeMaps (open_string shut_string)
set_option linter.unusedVariables false

theorem own : ownKnob Try.prog.godebug = none := by kernel_rfl
theorem laidOut : laidOutB Try.prog = true := by kernel_rfl

/-- WHAT THE WALK IS TOLD OF A SLICE OF INTEGERS THAT CAME IN: it is nil; or it leads to a row of 'cap' cells, the numbers 'zs' (the first 'len' are its elements, the rest its spare room), each fitting its kind. -/
def IsRow (k : IntKind) (w : World) (a : Option Addr) (len cap : Nat) (zs : List Int) : Prop :=
  (a = none ∧ len = 0 ∧ cap = 0 ∧ zs = []) ∨
  ∃ x, a = some x ∧ len ≤ cap ∧ cap ≤ maxLen ∧ zs.length = cap ∧ (∀ i, i < zs.length → w.cell? (x.add i) = some (.int k (zs.getD i 0))) ∧ ∀ n ∈ zs, (Lit.int k n).wf = true

set_option maxHeartbeats 4000000 in
theorem walk (a0 : Int) (a1 : Int) (a2 : Int) (w : World) (w0 : (Lit.int .u64 a0).wf = true) (w1 : (Lit.int .u64 a1).wf = true) (w2 : (Lit.int .u8 a2).wf = true) :
    Calls Try.prog 5 #[.int .u64 a0, .int .u64 a1, .int .u8 a2] w fun e w' => e = .returned (.bool true) ∧ Below w.heap.size w w' := by
  have hb0 : 0 ≤ a0 ∧ a0 ≤ 18446744073709551615 := by simpa [Lit.wf, IntKind.min, IntKind.max, IntKind.signed, IntKind.bits] using w0
  have hb1 : 0 ≤ a1 ∧ a1 ≤ 18446744073709551615 := by simpa [Lit.wf, IntKind.min, IntKind.max, IntKind.signed, IntKind.bits] using w1
  have hb2 : 0 ≤ a2 ∧ a2 ≤ 255 := by simpa [Lit.wf, IntKind.min, IntKind.max, IntKind.signed, IntKind.bits] using w2
  obtain ⟨n0, rfl⟩ := Int.eq_ofNat_of_zero_le hb0.1
  obtain ⟨n1, rfl⟩ := Int.eq_ofNat_of_zero_le hb1.1
  obtain ⟨n2, rfl⟩ := Int.eq_ofNat_of_zero_le hb2.1
  obtain ⟨r, hr⟩ : ∃ r, n2 % 8 = r := ⟨_, rfl⟩
  have hr8 : r < 8 := by omega
  have hr' : (n2 : Int) % 8 = (r : Int) := by omega
  by_cases h7 : r < 7
  · have hpow := Pk.pow8_le (1 + r) (by omega)
    have hpos : 0 < 256 ^ (1 + r) := Nat.pow_pos (by omega)
    obtain ⟨P, hP⟩ : ∃ P, 256 ^ (1 + r) = P := ⟨_, rfl⟩
    have hwr : IntKind.u64.wrap (2 ^ (8 * (1 + r))) = (P : Int) := by
      have hlt : 256 ^ (1 + r) < 18446744073709551616 := Nat.lt_of_lt_of_le (Nat.pow_lt_pow_right (by omega) (show 1 + r < 8 by omega)) (Pk.pow8_le 8 (by omega))
      have := Pk.wrap64 (256 ^ (1 + r)) hlt
      rw [hP] at this
      rw [← this, ← hP, Pk.pow8]
      simp
    rw [hP] at hpos hpow
    obtain ⟨A, hA⟩ : ∃ A, n0 % P = A := ⟨_, rfl⟩
    obtain ⟨B, hB⟩ : ∃ B, n1 % P = B := ⟨_, rfl⟩
    have hAP : A < P := by rw [← hA]; exact Nat.mod_lt _ hpos
    have hBP : B < P := by rw [← hB]; exact Nat.mod_lt _ hpos
    have HA := Lib.hid (show ((n0 : Int) % (P : Int)) = (A : Int) by rw [← hA]; simp)
    have HB := Lib.hid (show ((n1 : Int) % (P : Int)) = (B : Int) by rw [← hB]; simp)
    have HP := Lib.hid hP
    clear hA hB hP
    have hA : A < 18446744073709551616 := by omega
    have hB : B < 18446744073709551616 := by omega
    obtain ⟨S, hS⟩ : ∃ S, Pk.numB A (1 + (r : Int)) = S := ⟨_, rfl⟩
    obtain ⟨T, hT⟩ : ∃ T, Pk.numB B (1 + (r : Int)) = T := ⟨_, rfl⟩
    obtain ⟨U, hU⟩ : ∃ U, Pk.numB A 8 = U := ⟨_, rfl⟩
    have HS := Lib.hid hS
    have HT := Lib.hid hT
    have HU := Lib.hid hU
    have hSs : S.size = 1 + r := by rw [← hS]; exact Pk.numB_size_in A (1 + r) (by omega) (by omega)
    have hUs : U.size = 8 := by rw [← hU]; exact Pk.numB_size_in A 8 (by omega) (by omega)
    have hx : (U.extract 0 (1 + r)).toList = S.toList := by
      rw [Pk.numB_cut A (1 + r) U S (by omega) (by omega) hU (by rw [← hS]; rfl)]
    have hy : (S.toList == T.toList) = ((A : Int) == (B : Int)) := Pk.numB_eqb A B (1 + r) S T (by omega) (by omega) (by rw [HP.out]; exact hAP) (by rw [HP.out]; exact hBP) (by rw [← hS]; rfl) (by rw [← hT]; rfl)
    have hS0 : 0 < S.size := by omega
    have HZ : Hid ((IntKind.u64.wrap ((S[0].toNat : Nat) : Int) == (A : Int) % 256) = true) := Lib.hid (Pk.numB_head A (1 + r) S (by omega) (by omega) (by rw [← hS]; rfl) hS0)
    clear hS hT hU
    go_enter Try.func5, Try.ntmps5
    go_wp2_with fail
    refine (Pk.examples_any _).mono ?_
    rintro e x1 ⟨rfl, hb⟩
    have bel1 : Below w.heap.size w x1 := hb
    clear hb 
    go_wp2_with fail
    rw [HA.out, HB.out]
    refine (Pk.put_any A (1 + (r : Int)) hA _).mono ?_
    rintro e x2 ⟨rfl, hb⟩
    have bel2 : Below w.heap.size w x2 := (bel1.trans (hb.mono bel1.size))
    clear hb bel1
    rw [HS.out]
    go_wp2_with fail
    refine (Pk.put_any B (1 + (r : Int)) hB _).mono ?_
    rintro e x3 ⟨rfl, hb⟩
    have bel3 : Below w.heap.size w x3 := (bel2.trans (hb.mono bel2.size))
    clear hb bel2
    rw [HT.out]
    go_wp2_with fail
    refine (Pk.put_any A 8 hA _).mono ?_
    rintro e x4 ⟨rfl, hb⟩
    have bel4 : Below w.heap.size w x4 := (bel3.trans (hb.mono bel3.size))
    clear hb bel3
    rw [HU.out]
    go_wp2_with fail
    refine (Pk.put_any A 0 hA _).mono ?_
    rintro e x5 ⟨rfl, hb⟩
    have bel5 : Below w.heap.size w x5 := (bel4.trans (hb.mono bel4.size))
    clear hb bel4
    rw [Pk.numB_out A 0 (by omega)]
    go_wp2_with fail
    refine (Pk.put_any A 9 hA _).mono ?_
    rintro e x6 ⟨rfl, hb⟩
    have bel6 : Below w.heap.size w x6 := (bel5.trans (hb.mono bel5.size))
    clear hb bel5
    rw [Pk.numB_out A 9 (by omega)]
    go_wp2
    go_ret
    exact ⟨Pk.ret_bool HZ.out, bel6⟩
  · obtain rfl : r = 7 := by omega
    have hA : n0 < 18446744073709551616 := by omega
    have hB : n1 < 18446744073709551616 := by omega
    obtain ⟨S, hS⟩ : ∃ S, Pk.numB n0 8 = S := ⟨_, rfl⟩
    obtain ⟨T, hT⟩ : ∃ T, Pk.numB n1 8 = T := ⟨_, rfl⟩
    have HS := Lib.hid hS
    have HT := Lib.hid hT
    have HU := Lib.hid hS
    have hSs : S.size = 8 := by rw [← hS]; exact Pk.numB_size_in n0 8 (by omega) (by omega)
    have hx : (S.extract 0 8).toList = S.toList := by
      rw [Pk.numB_cut n0 8 S S (by omega) (by omega) hS hS]
    have hy : (S.toList == T.toList) = ((n0 : Int) == (n1 : Int)) := Pk.numB_eqb n0 n1 8 S T (by omega) (by omega) hA hB hS hT
    have hS0 : 0 < S.size := by omega
    have HZ : Hid ((IntKind.u64.wrap ((S[0].toNat : Nat) : Int) == (n0 : Int) % 256) = true) := Lib.hid (Pk.numB_head n0 8 S (by omega) (by omega) hS hS0)
    have hr' : (n2 : Int) % 8 = 7 := hr'
    clear hS hT h7
    go_enter Try.func5, Try.ntmps5
    go_wp2_with fail
    refine (Pk.examples_any _).mono ?_
    rintro e x1 ⟨rfl, hb⟩
    have bel1 : Below w.heap.size w x1 := hb
    clear hb 
    go_wp2_with fail
    refine (Pk.put_any n0 8 hA _).mono ?_
    rintro e x2 ⟨rfl, hb⟩
    have bel2 : Below w.heap.size w x2 := (bel1.trans (hb.mono bel1.size))
    clear hb bel1
    rw [HS.out]
    go_wp2_with fail
    refine (Pk.put_any n1 8 hB _).mono ?_
    rintro e x3 ⟨rfl, hb⟩
    have bel3 : Below w.heap.size w x3 := (bel2.trans (hb.mono bel2.size))
    clear hb bel2
    rw [HT.out]
    go_wp2_with fail
    refine (Pk.put_any n0 8 hA _).mono ?_
    rintro e x4 ⟨rfl, hb⟩
    have bel4 : Below w.heap.size w x4 := (bel3.trans (hb.mono bel3.size))
    clear hb bel3
    rw [HU.out]
    go_wp2_with fail
    refine (Pk.put_any n0 0 hA _).mono ?_
    rintro e x5 ⟨rfl, hb⟩
    have bel5 : Below w.heap.size w x5 := (bel4.trans (hb.mono bel4.size))
    clear hb bel4
    rw [Pk.numB_out n0 0 (by omega)]
    go_wp2_with fail
    refine (Pk.put_any n0 9 hA _).mono ?_
    rintro e x6 ⟨rfl, hb⟩
    have bel6 : Below w.heap.size w x6 := (bel5.trans (hb.mono bel5.size))
    clear hb bel5
    rw [Pk.numB_out n0 9 (by omega)]
    go_wp2
    go_ret
    exact ⟨Pk.ret_bool HZ.out, bel6⟩

set_option maxRecDepth 100000 in
theorem lifted (os : Os) (started : os.Started) (H : Type) (enc : TypeId × Value → H) :
    ReturnsInHanded {} Try.checked os 5 .any (Rows.packNumbersSpec.pre6 enc Try.prog Try.f5 Rows.packNumbersRow.domain false) (Rows.packNumbersSpec.post enc Try.prog Try.f5 false true false false) := by
  refine returnsInHanded_of_change_sized (C := Try.checked) own started (by kernel_rfl) Try.func5
    (ChangeSpec.witness6 (enc := enc) (C := Try.checked) false ⟨#[], #[.int .u64 0, .int .u64 0, .int .u8 0], []⟩ 8 (by kernel_rfl) (by kernel_rfl) (by kernel_rfl) (by kernel_rfl)) ?_
  intro W base args ds gs before hval0 hW hcnd hsz0 _
  have hval : ∀ (j : Nat) t v, Try.f5.params[j]? = some t → args[j]? = some v → Value.okWide Try.prog W .any base t v := hval0
  have hsz : (DataW.weightsEach Try.prog (Try.f5.params.toList ++ Rows.packNumbersSpec.plain.varTypes Try.prog) (ds ++ gs)).all (· ≤ reachBytes) = true := hsz0
  have hW' := hW
  obtain ⟨p, q, hA0, hV, rfl, hfz, hnd⟩ := hW
  have hA : DataW.TrodAll enc Try.prog W 0 (fun _ => true) true Try.f5.params.toList args.toList ds p := hA0
  rw [Try.params5] at hA hval hsz
  obtain ⟨v0, vs0, d0, ds0, p0, q0, hargs, rfl, rfl, h0, r0⟩ := trodAll_cons hA
  obtain ⟨v1, vs1, d1, ds1, p1, q1, rfl, rfl, rfl, h1, r1⟩ := trodAll_cons r0
  obtain ⟨v2, vs2, d2, ds2, p2, q2, rfl, rfl, rfl, h2, r2⟩ := trodAll_cons r1
  obtain ⟨rfl, rfl, rfl⟩ := trodAll_nil r2
  obtain rfl : args = #[v0, v1, v2] := by cases args; simp_all
  obtain ⟨rfl, rfl⟩ := trodVars_none hV
  obtain ⟨a0, rfl, rfl, rfl, w0⟩ := open_int Try.underlying25 (hval 0 25 v0 rfl rfl) h0
  obtain ⟨a1, rfl, rfl, rfl, w1⟩ := open_int Try.underlying25 (hval 1 25 v1 rfl rfl) h1
  obtain ⟨a2, rfl, rfl, rfl, w2⟩ := open_int Try.underlying5 (hval 2 5 v2 rfl rfl) h2
  clear hA0 hval0
  refine (walk a0 a1 a2 W w0 w1 w2).mono fun e W' ⟨he, bel⟩ => ?_
  subst he
  exact ⟨_, rfl, _, _, _, [], _, [], hW', trodAll_mk1 (shut_bool Try.underlying4 _), (trodAll_cons_mk (shut_int Try.underlying25 w0) (trodAll_cons_mk (shut_int Try.underlying25 w1) (trodAll_cons_mk (shut_int Try.underlying5 w2) trodAll_mk0))), rfl, bel.frame _, fun h => by cases h⟩

theorem over : Rows.packNumbersRow.holds Try.pinned (OpenSpec.ofChange Rows.packNumbersSpec) :=
  OpenClaim.holds_of_wide 5 Try.f5 rfl rfl rfl rfl rfl rfl rfl ⟨rfl, rfl, rfl, rfl, rfl⟩ rfl rfl rfl rfl rfl (by kernel_rfl) Try.func5 (by kernel_rfl)
    (of_decide_eq_true (by kernel_rfl)) (by unfold Func.isWrapper; first | (rw [if_pos (by decide +kernel)]; kernel_rfl) | (rw [if_neg (by decide +kernel)]; exact ⟨rfl, rfl⟩))
    (fun os started H enc _ => lifted os started H enc)

theorem proved : Rows.PackNumbersSaid := over
end Go.Proofs.Ytmigofcicipejaa.packNumbers
