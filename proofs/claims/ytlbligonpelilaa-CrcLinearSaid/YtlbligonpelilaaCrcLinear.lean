/-
  Proved: for every two texts and changes the law CrcLinear returns true and leaves its inputs as they were. No condition beyond the form's own reach.
-/
import Derived.Test.YtlbligonpelilaaCrcE
import Derived.Test.YtlbligonpelilaaCrcB
import Derived.Deep.QuietTactic
import Derived.BigQuiet
import Derived.WalkLawsBesides
import Derived.WalkSpells
import Derived.WalkKit
import Derived.ProofKit
import Derived.OpenShut
import Derived.ShutString
import Derived.SizedLaws
import Derived.ChangeOld
import Derived.Below
namespace Go.Proofs.Ytlbligonpelilaa.crcLinear
open Go.ChangeShapes Go.WideShapes Go.ChangeAt Go.RowKit
open Go.ChangeMaps (open_string shut_string)
set_option linter.unusedVariables false

theorem own : ownKnob Try.prog.godebug = none := by kernel_rfl
theorem laidOut : laidOutB Try.prog = true := by kernel_rfl

/-- WHAT THE WALK IS TOLD OF A SLICE OF INTEGERS THAT CAME IN: it is nil; or it leads to a row of 'cap' cells, the numbers 'zs' (the first 'len' are its elements, the rest its spare room), each fitting its kind. -/
def IsRow (k : IntKind) (w : World) (a : Option Addr) (len cap : Nat) (zs : List Int) : Prop :=
  (a = none ∧ len = 0 ∧ cap = 0 ∧ zs = []) ∨
  ∃ x, a = some x ∧ len ≤ cap ∧ cap ≤ maxLen ∧ zs.length = cap ∧ (∀ i, i < zs.length → w.cell? (x.add i) = some (.int k (zs.getD i 0))) ∧ ∀ n ∈ zs, (Lit.int k n).wf = true

theorem walk (a0 : ByteArray) (a1 : ByteArray) (a2 : ByteArray) (w : World) (w0 : a0.size ≤ 140737488351232) (w1 : a1.size ≤ 140737488351232) (w2 : a2.size ≤ 140737488351232) :
    Calls Try.prog 6 #[.string a0, .string a1, .string a2] w fun e w' => e = .returned (.bool true) ∧ Below w.heap.size w w' := by
  obtain ⟨n, hn⟩ : ∃ n, min (min a0.size a1.size) a2.size = n := ⟨_, rfl⟩
  have n0 : n ≤ a0.size := by omega
  have n1 : n ≤ a1.size := by omega
  have n2 : n ≤ a2.size := by omega
  have hmin : ∀ W, (Builtin.min_ #[3, 3, 3] 3 #[.int .i64 (a0.size : Int), .int .i64 (a1.size : Int), .int .i64 (a2.size : Int)]).run Try.prog W = .ok (.int .i64 (n : Int)) W := by
    intro W
    rw [run_min_int3]
    have : (if (a2.size : Int) < (if (a1.size : Int) < (a0.size : Int) then (a1.size : Int) else (a0.size : Int)) then (a2.size : Int) else (if (a1.size : Int) < (a0.size : Int) then (a1.size : Int) else (a0.size : Int))) = (n : Int) := by
      split <;> split <;> omega
    rw [this]
  have HN := Lib.hid hn
  clear hn
  have hbnd : n ≤ 140737488351232 := by omega
  obtain ⟨la, hla⟩ : ∃ la, a0.data.toList.take n = la := ⟨_, rfl⟩
  obtain ⟨lb, hlb⟩ : ∃ lb, a1.data.toList.take n = lb := ⟨_, rfl⟩
  obtain ⟨ld, hld⟩ : ∃ ld, a2.data.toList.take n = ld := ⟨_, rfl⟩
  have za : la.length = n := by rw [← hla]; simp; omega
  have zb : lb.length = n := by rw [← hlb]; simp; omega
  have zd : ld.length = n := by rw [← hld]; simp; omega
  have hea : a0.extract 0 n = ⟨la.toArray⟩ := by rw [← hla]; exact Crc.extract_take a0 n
  have heb : a1.extract 0 n = ⟨lb.toArray⟩ := by rw [← hlb]; exact Crc.extract_take a1 n
  have HA := Lib.hid hea
  have HB := Lib.hid heb
  have HD := Lib.hid hld
  have ZA := Lib.hid za
  have ZB := Lib.hid zb
  have ZD := Lib.hid zd
  clear hla hlb hld za zb zd hea heb HN
  go_enter Try.func6, Try.ntmps6
  go_wp2_with fail
  refine (Crc.examples_any _).mono ?_
  rintro e w' ⟨rfl, rfl⟩
  go_wp2_with fail
  rw [HA.out]
  obtain ⟨capA, W1, hcv, hb1, hs1, hyA⟩ := Crc.conv_bytes (P := Try.prog) w 9 29 5 ⟨la.toArray⟩ Try.underlying9 Try.underlying29 Try.underlying5
  rw [show (ByteArray.mk la.toArray).size = n from ZA.out] at hcv
  rw [show (ByteArray.mk la.toArray).data.toList = la from rfl] at hyA
  have HS1 := Lib.hid hs1
  have HYA := Lib.hid hyA
  clear hs1 hyA
  go_simp
  clear hcv
  go_wp2_with fail
  rw [HB.out]
  obtain ⟨capB, W2, hcv, hb2, hs2, hyB⟩ := Crc.conv_bytes (P := Try.prog) W1 9 29 5 ⟨lb.toArray⟩ Try.underlying9 Try.underlying29 Try.underlying5
  rw [show (ByteArray.mk lb.toArray).size = n from ZB.out] at hcv
  rw [show (ByteArray.mk lb.toArray).data.toList = lb from rfl] at hyB
  have hlt : w.heap.size < W1.heap.size := by have := HS1.out; omega
  have hyA2 := HYA.out.keep hb2 hlt
  have hbel : Below w.heap.size w W2 := hb1.trans (hb2.mono (by omega))
  clear hb1 hb2 hs2 HS1 HYA
  go_simp
  clear hcv
  generalize hB1 : w.heap.size = B1 at *
  generalize W1.heap.size = B2 at *
  have mA : (ByteArray.mk la.toArray).size ≤ maxLen := by rw [show (ByteArray.mk la.toArray).size = n from ZA.out]; unfold maxLen; omega
  have mB : (ByteArray.mk lb.toArray).size ≤ maxLen := by rw [show (ByteArray.mk lb.toArray).size = n from ZB.out]; unfold maxLen; omega
  have cA := hyA2.back_any (P := Try.prog) 29 9 5 capA n ZA.out Try.underlying29 Try.underlying5 Try.underlying9
  have cB := hyB.back_any (P := Try.prog) 29 9 5 capB n ZB.out Try.underlying29 Try.underlying5 Try.underlying9
  have HYA := Lib.hid hyA2
  have HYB := Lib.hid hyB
  have HB1 := Lib.hid hB1
  clear hyA2 hyB hB1
  go_wp2_with fail
  go_quiet ((first | exact Crc.sum_quiet la mA _ _ | exact Crc.sum_quiet lb mB _ _))
  clear cA cB
  have hxa := Crc.add_lt 0 la
  have hxb := Crc.add_lt 0 lb
  rw [u32_xor_nat _ _ hxa hxb]
  obtain ⟨X, HX⟩ : ∃ X, Hid (Crc.add 0 la ^^^ Crc.add 0 lb = X) := ⟨_, Lib.hid rfl⟩
  rw [HX.out]
  go_wp2_with fail
  go_loopw [12] (fun i wr => ∃ k : Nat, k ≤ n ∧ i = .int .i64 k ∧ Below B1 w wr ∧ Crc.Bytes wr B1 (Crc.mix k la ld) ∧ Crc.Bytes wr B2 (Crc.mix k lb ld)) (fun i _ => n - (intOf i).toNat)
  case atStart => exact ⟨0, Nat.zero_le _, rfl, below_drewN hbel nq, by rw [Crc.mix_zero]; exact HYA.out.drewN nq, by rw [Crc.mix_zero]; exact HYB.out.drewN nq⟩
  case round =>
    obtain ⟨k, hk, rfl, hbw, hA, hB⟩ := hrel
    by_cases hlt2 : k < n
    · obtain ⟨va, gva, ca, fa⟩ := hA.at k (by rw [Crc.mix_length k la ld (by rw [ZA.out, ZD.out]), ZA.out]; exact hlt2)
      have hHA := Lib.hid hA
      have hHB := Lib.hid hB
      have hGA := Lib.hid gva
      have hkd : k < a2.size := by omega
      clear hA hB gva
      go_wp2_with fail
      go_region
      rw [Crc.xor_bytes]
      have hu := Crc.take_at a2 n k ld HD.out hlt2 hkd
      have lenA : la.length = ld.length := by rw [ZA.out, ZD.out]
      have lenB : lb.length = ld.length := by rw [ZB.out, ZD.out]
      have kA : k < la.length := by rw [ZA.out]; exact hlt2
      have kB : k < lb.length := by rw [ZB.out]; exact hlt2
      have sA := hHA.out.set k (va ^^^ a2[k]) (by rw [Crc.mix_length k la ld lenA]; exact kA)
      rw [Crc.mix_set k la ld lenA kA va a2[k] (by rw [← Crc.mix_at k la ld lenA kA]; exact hGA.out) hu] at sA
      have sB := (hHB.out.other ⟨B1, k, none⟩ (.int .u8 ((va ^^^ a2[k]).toNat : Int)) (by show B1 ≠ B2; omega))
      have hbw2 : Below B1 w (wr.setCell ⟨B1, k, none⟩ (.int .u8 ((va ^^^ a2[k]).toNat : Int))).drew := (hbw.setCell (Nat.le_refl _) _).drew
      replace sA := sA.drew
      replace sB := sB.drew
      generalize (wr.setCell ⟨B1, k, none⟩ (.int .u8 ((va ^^^ a2[k]).toNat : Int))).drew = wr2 at *
      obtain ⟨vb, gvb, cb, fb⟩ := sB.at k (by rw [Crc.mix_length k lb ld lenB]; exact kB)
      have HSA := Lib.hid sA
      have HSB := Lib.hid sB
      have hGB := Lib.hid gvb
      have HU := Lib.hid hu
      have LB := Lib.hid lenB
      clear sA sB gvb hu lenA lenB hbw ca fa
      go_wp2_with fail
      go_region
      rw [Crc.xor_bytes]
      have sB := HSB.out.set k (vb ^^^ a2[k]) (by rw [Crc.mix_length k lb ld LB.out]; exact kB)
      rw [Crc.mix_set k lb ld LB.out kB vb a2[k] (by rw [← Crc.mix_at k lb ld LB.out kB]; exact hGB.out) HU.out] at sB
      have sA := (HSA.out.other ⟨B2, k, none⟩ (.int .u8 ((vb ^^^ a2[k]).toNat : Int)) (by show B2 ≠ B1; omega))
      have hbw3 : Below B1 w (wr2.setCell ⟨B2, k, none⟩ (.int .u8 ((vb ^^^ a2[k]).toNat : Int))).drew := (hbw2.setCell (by show B1 ≤ B2; omega) _).drew
      replace sA := sA.drew
      replace sB := sB.drew
      generalize (wr2.setCell ⟨B2, k, none⟩ (.int .u8 ((vb ^^^ a2[k]).toNat : Int))).drew = wr3 at *
      have HSA := Lib.hid sA
      have HSB := Lib.hid sB
      clear sA sB cb fb hbw2
      go_wp2
      go_roundw
      case rel => exact ⟨k + 1, by omega, by go_num, hbw3, HSA.out, HSB.out⟩
      case measure => simp [intOf]; omega
    · obtain rfl : k = n := by omega
      have lenA : la.length = ld.length := by rw [ZA.out, ZD.out]
      have lenB : lb.length = ld.length := by rw [ZB.out, ZD.out]
      have fin : Crc.add 0 (Crc.mix k la ld) ^^^ Crc.add 0 (Crc.mix k lb ld) = X := by
        have h1 := Crc.mix_all la ld lenA
        have h2 := Crc.mix_all lb ld lenB
        rw [ZA.out] at h1
        rw [ZB.out] at h2
        rw [h1, h2, Crc.add_xor la lb ld lenA lenB, HX.out]
      have l1 : (Crc.mix k la ld).length = k := by rw [Crc.mix_length k la ld lenA, ZA.out]
      have l2 : (Crc.mix k lb ld).length = k := by rw [Crc.mix_length k lb ld lenB, ZB.out]
      generalize Crc.mix k la ld = ma at *
      generalize Crc.mix k lb ld = mb at *
      have m1 : (ByteArray.mk ma.toArray).size ≤ maxLen := by show ma.toArray.size ≤ maxLen; rw [List.size_toArray, l1]; unfold maxLen; omega
      have m2 : (ByteArray.mk mb.toArray).size ≤ maxLen := by show mb.toArray.size ≤ maxLen; rw [List.size_toArray, l2]; unfold maxLen; omega
      have cA := hA.back_any (P := Try.prog) 29 9 5 capA k l1 Try.underlying29 Try.underlying5 Try.underlying9
      have cB := hB.back_any (P := Try.prog) 29 9 5 capB k l2 Try.underlying29 Try.underlying5 Try.underlying9
      have hfin : (bits .xor .u32 ((Crc.add 0 ma : Nat) : Int) ((Crc.add 0 mb : Nat) : Int) == (X : Int)) = true := by
        rw [u32_xor_nat _ _ (Crc.add_lt 0 ma) (Crc.add_lt 0 mb), fin]
        exact beq_self_eq_true _
      clear lenA lenB fin l1 l2 hA hB hmin
      go_wp2_with fail
      go_quiet ((first | exact Crc.sum_quiet ma m1 _ _ | exact Crc.sum_quiet mb m2 _ _))
      go_wp2
      go_ret
      exact ⟨rfl, by rw [HB1.out]; exact below_drewN hbw _⟩

set_option maxRecDepth 100000 in
theorem lifted (os : Os) (started : os.Started) (H : Type) (enc : TypeId × Value → H) :
    ReturnsInHanded {} Try.checked os 6 .any (Rows.crcLinearSpec.pre6 enc Try.prog Try.f6 Rows.crcLinearRow.domain false) (Rows.crcLinearSpec.post enc Try.prog Try.f6 false true false false) := by
  refine returnsInHanded_of_change_sized (C := Try.checked) own started (by kernel_rfl) Try.func6
    (ChangeSpec.witness6 (enc := enc) (C := Try.checked) false ⟨#[], #[.string ByteArray.empty, .string ByteArray.empty, .string ByteArray.empty], []⟩ 8 (by kernel_rfl) (by kernel_rfl) (by kernel_rfl) (by kernel_rfl)) ?_
  intro W base args ds gs before hval0 hW hcnd hsz0 _
  have hval : ∀ (j : Nat) t v, Try.f6.params[j]? = some t → args[j]? = some v → Value.okWide Try.prog W .any base t v := hval0
  have hsz : (DataW.weightsEach Try.prog (Try.f6.params.toList ++ Rows.crcLinearSpec.plain.varTypes Try.prog) (ds ++ gs)).all (· ≤ reachBytes) = true := hsz0
  have hW' := hW
  obtain ⟨p, q, hA0, hV, rfl, hfz, hnd⟩ := hW
  have hA : DataW.TrodAll enc Try.prog W 0 (fun _ => true) true Try.f6.params.toList args.toList ds p := hA0
  rw [Try.params6] at hA hval hsz
  obtain ⟨v0, vs0, d0, ds0, p0, q0, hargs, rfl, rfl, h0, r0⟩ := trodAll_cons hA
  obtain ⟨v1, vs1, d1, ds1, p1, q1, rfl, rfl, rfl, h1, r1⟩ := trodAll_cons r0
  obtain ⟨v2, vs2, d2, ds2, p2, q2, rfl, rfl, rfl, h2, r2⟩ := trodAll_cons r1
  obtain ⟨rfl, rfl, rfl⟩ := trodAll_nil r2
  obtain rfl : args = #[v0, v1, v2] := by cases args; simp_all
  obtain ⟨rfl, rfl⟩ := trodVars_none hV
  obtain ⟨a0, rfl, rfl, rfl, w0⟩ := open_string Try.underlying9 (hval 0 9 v0 rfl rfl) h0
  obtain ⟨a1, rfl, rfl, rfl, w1⟩ := open_string Try.underlying9 (hval 1 9 v1 rfl rfl) h1
  obtain ⟨a2, rfl, rfl, rfl, w2⟩ := open_string Try.underlying9 (hval 2 9 v2 rfl rfl) h2
  clear hA0 hval0
  have z0 : a0.size ≤ 140737488351232 := by
    have := sized_string hsz (j := 0) (t := 9) rfl rfl
    simp only [Array.length_toList, reachBytes] at this
    exact this
  have z1 : a1.size ≤ 140737488351232 := by
    have := sized_string hsz (j := 1) (t := 9) rfl rfl
    simp only [Array.length_toList, reachBytes] at this
    exact this
  have z2 : a2.size ≤ 140737488351232 := by
    have := sized_string hsz (j := 2) (t := 9) rfl rfl
    simp only [Array.length_toList, reachBytes] at this
    exact this
  refine (walk a0 a1 a2 W z0 z1 z2).mono fun e W' ⟨he, bel⟩ => ?_
  subst he
  exact ⟨_, rfl, _, _, _, [], _, [], hW', trodAll_mk1 (shut_bool Try.underlying4 _), (trodAll_cons_mk (shut_string Try.underlying9 w0) (trodAll_cons_mk (shut_string Try.underlying9 w1) (trodAll_cons_mk (shut_string Try.underlying9 w2) trodAll_mk0))), rfl, bel.frame _, fun h => by cases h⟩

theorem over : Rows.crcLinearRow.holds Try.pinned (OpenSpec.ofChange Rows.crcLinearSpec) :=
  OpenClaim.holds_of_wide 6 Try.f6 rfl rfl rfl rfl rfl rfl rfl ⟨rfl, rfl, rfl, rfl, rfl⟩ rfl rfl rfl rfl rfl (by kernel_rfl) Try.func6 (by kernel_rfl)
    (of_decide_eq_true (by kernel_rfl)) (by unfold Func.isWrapper; first | (rw [if_pos (by decide +kernel)]; kernel_rfl) | (rw [if_neg (by decide +kernel)]; exact ⟨rfl, rfl⟩))
    (fun os started H enc _ => lifted os started H enc)

theorem proved : Rows.CrcLinearSaid := over
end Go.Proofs.Ytlbligonpelilaa.crcLinear
