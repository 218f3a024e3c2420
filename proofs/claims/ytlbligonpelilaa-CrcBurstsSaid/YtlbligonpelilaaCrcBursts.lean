/-
  Proved: for every text, place and changes the law CrcBursts returns true and leaves its inputs as they were. No condition beyond the form's own reach.
-/
import Derived.Test.YtlbligonpelilaaCrcE
import Derived.BigQuiet
import Derived.LoopN
import Derived.WalkKit
import Derived.ProofKit
import Derived.OpenShut
import Derived.ShutString
import Derived.SizedLaws
import Derived.ChangeOld
import Derived.Below
namespace Go.Proofs.Ytlbligonpelilaa.crcBursts
open Go.ChangeShapes Go.WideShapes Go.ChangeAt Go.RowKit
open Go.ChangeMaps (open_string shut_string)
set_option linter.unusedVariables false

theorem own : ownKnob Try.prog.godebug = none := by kernel_rfl
theorem laidOut : laidOutB Try.prog = true := by kernel_rfl

/-- WHAT THE WALK IS TOLD OF A SLICE OF INTEGERS THAT CAME IN: it is nil; or it leads to a row of 'cap' cells, the numbers 'zs' (the first 'len' are its elements, the rest its spare room), each fitting its kind. -/
def IsRow (k : IntKind) (w : World) (a : Option Addr) (len cap : Nat) (zs : List Int) : Prop :=
  (a = none ∧ len = 0 ∧ cap = 0 ∧ zs = []) ∨
  ∃ x, a = some x ∧ len ≤ cap ∧ cap ≤ maxLen ∧ zs.length = cap ∧ (∀ i, i < zs.length → w.cell? (x.add i) = some (.int k (zs.getD i 0))) ∧ ∀ n ∈ zs, (Lit.int k n).wf = true

theorem walk (a0 : ByteArray) (a1 : Int) (a2 : Int) (w : World) (w0 : a0.size ≤ 140737488351232) (w1 : (Lit.int .u16 a1).wf = true) (w2 : (Lit.int .u32 a2).wf = true) :
    Calls Try.prog 5 #[.string a0, .int .u16 a1, .int .u32 a2] w fun e w' => e = .returned (.bool true) ∧ Below w.heap.size w w' := by
  have hb1 : 0 ≤ a1 ∧ a1 ≤ 65535 := by simpa [Lit.wf, IntKind.min, IntKind.max, IntKind.signed, IntKind.bits] using w1
  have hb2 : 0 ≤ a2 ∧ a2 ≤ 4294967295 := by simpa [Lit.wf, IntKind.min, IntKind.max, IntKind.signed, IntKind.bits] using w2
  obtain ⟨n1, rfl⟩ := Int.eq_ofNat_of_zero_le hb1.1
  obtain ⟨n2, rfl⟩ := Int.eq_ofNat_of_zero_le hb2.1
  obtain ⟨l, hl⟩ : ∃ l, a0.data.toList ++ [49, 50, 51, 52, 53, 54, 55, 56] = l := ⟨_, rfl⟩
  obtain ⟨n, hn⟩ : ∃ n, l.length = n := ⟨_, rfl⟩
  have hn2 : n = a0.size + 8 := by rw [← hn, ← hl]; simp
  have n8 : 8 ≤ n := by omega
  have nb : n ≤ 140737488351240 := by omega
  have hk : n1 % (n - 4) < n - 4 := Nat.mod_lt _ (by omega)
  obtain ⟨k, hkk⟩ : ∃ k, n1 % (n - 4) = k := ⟨_, rfl⟩
  rw [hkk] at hk
  have hall : a0 ++ ⟨#[49, 50, 51, 52, 53, 54, 55, 56]⟩ = ⟨l.toArray⟩ := by rw [← hl]; apply ByteArray.ext; apply Array.ext'; simp
  have HL := Lib.hid hall
  have HN := Lib.hid hn
  have HK := Lib.hid hkk
  have mL : (ByteArray.mk l.toArray).size ≤ maxLen := by show l.toArray.size ≤ maxLen; rw [List.size_toArray, hn]; unfold maxLen; omega
  clear hl hn hn2 hall hkk
  go_enter Try.func5, Try.ntmps5
  go_wp2_with fail
  refine (Crc.examples_any _).mono ?_
  rintro e w' ⟨rfl, rfl⟩
  go_wp2_with fail
  rw [HL.out]
  obtain ⟨capA, W1, hcv, hbel1, hs1, hy⟩ := Crc.conv_bytes (P := Try.prog) w 9 29 5 ⟨l.toArray⟩ Try.underlying9 Try.underlying29 Try.underlying5
  rw [show (ByteArray.mk l.toArray).size = n from HN.out] at hcv
  rw [show (ByteArray.mk l.toArray).data.toList = l from rfl] at hy
  have hbk := hy.back (P := Try.prog) 29 9 5 capA Try.underlying29 Try.underlying5 Try.underlying9
  rw [HN.out] at hbk
  have HS1 := Lib.hid hs1
  have HY := Lib.hid hy
  clear hs1 hy
  go_simp
  clear hcv
  go_wp2_with fail
  refine (Crc.sum_any _ mL _).mono ?_
  rintro e w' ⟨rfl, rfl⟩
  rw [show (ByteArray.mk l.toArray).data.toList = l from rfl]
  clear hbk
  have hx := Crc.add_lt 0 l
  obtain ⟨X, HX⟩ : ∃ X, Hid (Crc.add 0 l = X) := ⟨_, Lib.hid rfl⟩
  rw [HX.out] at hx
  rw [HX.out]
  go_wp2_with fail
  rw [show ((n1 : Int) % ((n : Int) - 4)) = (k : Int) by rw [← HK.out, Int.natCast_emod, show ((n - 4 : Nat) : Int) = (n : Int) - 4 by omega]]
  have HWB : Hid (w.heap.size = w.heap.size) := Lib.hid rfl
  go_loopw [11] (fun i wr => ∃ j : Nat, j ≤ 4 ∧ i = .int .i64 j ∧ Below w.heap.size w wr ∧ w.heap.size + 1 ≤ wr.heap.size ∧ Crc.Bytes wr w.heap.size (Crc.brst l k n2 j)) (fun i _ => 4 - (intOf i).toNat)
  case atStart => exact ⟨0, Nat.zero_le _, rfl, hbel1, Nat.le_of_eq HS1.out.symm, HY.out⟩
  case round =>
    obtain ⟨j, hj, rfl, hbw, hsw, hB⟩ := hrel
    by_cases hlt : j < 4
    · obtain ⟨v, gv, cv, fv⟩ := hB.at (k + j) (by rw [Crc.brst_length, HN.out]; omega)
      have hHB := Lib.hid hB
      have hGV := Lib.hid gv
      clear hB gv
      go_wp2_with fail
      go_region
      rw [Crc.xor_shift]
      have hv : l.getD (k + j) 0 = v := by
        have h1 := hGV.out
        rw [Crc.brst_at l k n2 j (k + j) (Nat.le_refl _)] at h1
        rw [List.getD_eq_getElem?_getD, h1]
        rfl
      have sB := hHB.out.set (k + j) (v ^^^ UInt8.ofNat (n2 / 2 ^ (8 * j) % 256)) (by rw [Crc.brst_length, HN.out]; omega)
      have sB2 : Crc.Bytes (wr.setCell ⟨w.heap.size, k + j, none⟩ (.int .u8 ((v ^^^ UInt8.ofNat (n2 / 2 ^ (8 * j) % 256)).toNat : Int))).drew w.heap.size (Crc.brst l k n2 (j + 1)) := by
        simp only [Crc.brst]
        rw [hv]
        exact sB.drew
      have hbw2 : Below w.heap.size w (wr.setCell ⟨w.heap.size, k + j, none⟩ (.int .u8 ((v ^^^ UInt8.ofNat (n2 / 2 ^ (8 * j) % 256)).toNat : Int))).drew := (hbw.setCell (Nat.le_refl _) _).drew
      have hsw2 : w.heap.size + 1 ≤ (wr.setCell ⟨w.heap.size, k + j, none⟩ (.int .u8 ((v ^^^ UInt8.ofNat (n2 / 2 ^ (8 * j) % 256)).toNat : Int))).drew.heap.size := by simpa using hsw
      generalize (wr.setCell ⟨w.heap.size, k + j, none⟩ (.int .u8 ((v ^^^ UInt8.ofNat (n2 / 2 ^ (8 * j) % 256)).toNat : Int))).drew = wr2 at *
      have HSB := Lib.hid sB2
      clear sB sB2 hv cv fv hbw hsw
      go_wp2
      go_roundw
      case rel => exact ⟨j + 1, by omega, by go_num, hbw2, hsw2, HSB.out⟩
      case measure => simp [intOf]; omega
    · obtain rfl : j = 4 := by omega
      have hY := Crc.add_brst l k n2 (by rw [HN.out]; omega) (by omega)
      rw [HX.out] at hY
      have lB : (Crc.brst l k n2 4).length = n := by rw [Crc.brst_length, HN.out]
      generalize Crc.brst l k n2 4 = lb at *
      have hbk := hB.back (P := Try.prog) 29 9 5 capA Try.underlying29 Try.underlying5 Try.underlying9
      rw [lB] at hbk
      have mB : (ByteArray.mk lb.toArray).size ≤ maxLen := by show lb.toArray.size ≤ maxLen; rw [List.size_toArray, lB]; unfold maxLen; omega
      have HYY := Lib.hid hY
      clear hY lB hB
      go_wp2_with fail
      refine (Crc.sum_any _ mB _).mono ?_
      rintro e w' ⟨rfl, rfl⟩
      rw [show (ByteArray.mk lb.toArray).data.toList = lb from rfl]
      clear hbk
      obtain ⟨capC, W2, hcv, hbel2, hs2, hyC⟩ := Crc.conv_bytes (P := Try.prog) wr 9 29 5 ⟨l.toArray⟩ Try.underlying9 Try.underlying29 Try.underlying5
      rw [show (ByteArray.mk l.toArray).size = n from HN.out] at hcv
      rw [show (ByteArray.mk l.toArray).data.toList = l from rfl] at hyC
      obtain ⟨x0, g0, c0, f0⟩ := hyC.at k (by rw [HN.out]; omega)
      obtain ⟨x1, g1, c1, f1⟩ := hyC.at (k + 1) (by rw [HN.out]; omega)
      have HG0 := Lib.hid g0
      have HG1 := Lib.hid g1
      have HYC := Lib.hid hyC
      have HS2 := Lib.hid hs2
      clear g0 g1 hyC hs2
      go_wp2_with fail
      rw [HL.out]
      go_simp
      clear hcv
      generalize hB2 : wr.heap.size = B2 at *
      have HB2 := Lib.hid hB2
      clear hB2
      go_wp2_with fail
      have hZ := Crc.add_swap l k x0 x1 (l.getD (k + 2) 0) (l.getD (k + 3) 0) HG0.out HG1.out (Crc.getD_some l (k + 2) (by rw [HN.out]; omega)) (Crc.getD_some l (k + 3) (by rw [HN.out]; omega))
      rw [HX.out] at hZ
      have s1 := HYC.out.set k x1 (by rw [HN.out]; omega)
      have s2 := s1.set (k + 1) x0 (by rw [List.length_set, HN.out]; omega)
      have l2 : ((l.set k x1).set (k + 1) x0).length = n := by rw [List.length_set, List.length_set, HN.out]
      have d0 : ((l.set k x1).set (k + 1) x0)[k]? = some x1 := by
        rw [List.getElem?_set_ne (by omega), List.getElem?_set_self (by rw [HN.out]; omega)]
      have d1 : ((l.set k x1).set (k + 1) x0)[k + 1]? = some x0 := by
        rw [List.getElem?_set_self (by rw [List.length_set, HN.out]; omega)]
      obtain ⟨y0, i0, j0, _⟩ := s2.at k (by rw [l2]; omega)
      obtain ⟨y1, i1, j1, _⟩ := s2.at (k + 1) (by rw [l2]; omega)
      have hy0 : x1 = y0 := by rw [d0] at i0; exact Option.some.inj i0
      have hy1 : x0 = y1 := by rw [d1] at i1; exact Option.some.inj i1
      subst hy0 hy1
      have hbw2 : Below w.heap.size w ((W2.setCell ⟨B2, k, none⟩ (.int .u8 (x1.toNat : Int))).setCell ⟨B2, k + 1, none⟩ (.int .u8 (x0.toNat : Int))) :=
        ((hbw.trans (hbel2.mono (by have := HB2.out; omega))).setCell (by show w.heap.size ≤ B2; have := HB2.out; omega) _).setCell (by show w.heap.size ≤ B2; have := HB2.out; omega) _
      have mC : (ByteArray.mk ((l.set k x1).set (k + 1) x0).toArray).size ≤ maxLen := by
        show ((l.set k x1).set (k + 1) x0).toArray.size ≤ maxLen
        rw [List.size_toArray, l2]; unfold maxLen; omega
      have cC := s2.back_any (P := Try.prog) 29 9 5 capC n l2 Try.underlying29 Try.underlying5 Try.underlying9
      generalize (W2.setCell ⟨B2, k, none⟩ (.int .u8 (x1.toNat : Int))).setCell ⟨B2, k + 1, none⟩ (.int .u8 (x0.toNat : Int)) = W4 at *
      generalize (l.set k x1).set (k + 1) x0 = lc at *
      obtain ⟨b, p1, p2⟩ : ∃ b, (((Crc.add 0 lb : Nat) : Int) == (X : Int)) = b ∧ ((n2 : Int) == 0) = b := ⟨_, rfl, by
        rw [Bool.eq_iff_iff, beq_iff_eq, beq_iff_eq]; have := HYY.out; omega⟩
      obtain ⟨c, p3, p4⟩ : ∃ c, (((Crc.add 0 lc : Nat) : Int) == (X : Int)) = c ∧ ((x1.toNat : Int) == (x0.toNat : Int)) = c := ⟨_, rfl, by
        rw [Bool.eq_iff_iff, beq_iff_eq, beq_iff_eq]
        rw [show (x1 = x0) ↔ (x1.toNat = x0.toNat) from UInt8.toNat_inj.symm] at hZ
        omega⟩
      have HF := Lib.hid hbw2
      clear hZ s1 s2 l2 d0 d1 i0 i1 c0 c1 f0 f1 hbw hbw2
      cases b
      all_goals
        cases c
        all_goals
          go_wp2_with fail
          go_quiet (exact Crc.sum_quiet lc mC _ _)
          go_wp2
          go_ret
          exact ⟨rfl, below_drewN HF.out _⟩

set_option maxRecDepth 100000 in
theorem lifted (os : Os) (started : os.Started) (H : Type) (enc : TypeId × Value → H) :
    ReturnsInHanded {} Try.checked os 5 .any (Rows.crcBurstsSpec.pre6 enc Try.prog Try.f5 Rows.crcBurstsRow.domain false) (Rows.crcBurstsSpec.post enc Try.prog Try.f5 false true false false) := by
  refine returnsInHanded_of_change_sized (C := Try.checked) own started (by kernel_rfl) Try.func5
    (ChangeSpec.witness6 (enc := enc) (C := Try.checked) false ⟨#[], #[.string ByteArray.empty, .int .u16 0, .int .u32 0], []⟩ 8 (by kernel_rfl) (by kernel_rfl) (by kernel_rfl) (by kernel_rfl)) ?_
  intro W base args ds gs before hval0 hW hcnd hsz0 _
  have hval : ∀ (j : Nat) t v, Try.f5.params[j]? = some t → args[j]? = some v → Value.okWide Try.prog W .any base t v := hval0
  have hsz : (DataW.weightsEach Try.prog (Try.f5.params.toList ++ Rows.crcBurstsSpec.plain.varTypes Try.prog) (ds ++ gs)).all (· ≤ reachBytes) = true := hsz0
  have hW' := hW
  obtain ⟨p, q, hA0, hV, rfl, hfz, hnd⟩ := hW
  have hA : DataW.TrodAll enc Try.prog W 0 (fun _ => true) true Try.f5.params.toList args.toList ds p := hA0
  rw [Try.params5] at hA hval hsz
  obtain ⟨v0, vs0, d0, ds0, p0, q0, hargs, rfl, rfl, h0, r0⟩ := trodAll_cons hA
  obtain ⟨v1, vs1, d1, ds1, p1, q1, rfl, rfl, rfl, h1, r1⟩ := trodAll_cons r0
  obtain ⟨v2, vs2, d2, ds2, p2, q2, rfl, rfl, rfl, h2, r2⟩ := trodAll_cons r1
  obtain ⟨rfl, rfl, rfl⟩ := trodAll_nil r2
  obtain rfl : args = #[v0, v1, v2] := by cases args; simp_all
  obtain ⟨rfl, rfl⟩ := trodVars_none hV
  obtain ⟨a0, rfl, rfl, rfl, w0⟩ := open_string Try.underlying9 (hval 0 9 v0 rfl rfl) h0
  obtain ⟨a1, rfl, rfl, rfl, w1⟩ := open_int Try.underlying28 (hval 1 28 v1 rfl rfl) h1
  obtain ⟨a2, rfl, rfl, rfl, w2⟩ := open_int Try.underlying22 (hval 2 22 v2 rfl rfl) h2
  clear hA0 hval0
  have z0 : a0.size ≤ 140737488351232 := by
    have := sized_string hsz (j := 0) (t := 9) rfl rfl
    simp only [Array.length_toList, reachBytes] at this
    exact this
  refine (walk a0 a1 a2 W z0 w1 w2).mono fun e W' ⟨he, bel⟩ => ?_
  subst he
  exact ⟨_, rfl, _, _, _, [], _, [], hW', trodAll_mk1 (shut_bool Try.underlying4 _), (trodAll_cons_mk (shut_string Try.underlying9 w0) (trodAll_cons_mk (shut_int Try.underlying28 w1) (trodAll_cons_mk (shut_int Try.underlying22 w2) trodAll_mk0))), rfl, bel.frame _, fun h => by cases h⟩

theorem over : Rows.crcBurstsRow.holds Try.pinned (OpenSpec.ofChange Rows.crcBurstsSpec) :=
  OpenClaim.holds_of_wide 5 Try.f5 rfl rfl rfl rfl rfl rfl rfl ⟨rfl, rfl, rfl, rfl, rfl⟩ rfl rfl rfl rfl rfl (by kernel_rfl) Try.func5 (by kernel_rfl)
    (of_decide_eq_true (by kernel_rfl)) (by unfold Func.isWrapper; first | (rw [if_pos (by decide +kernel)]; kernel_rfl) | (rw [if_neg (by decide +kernel)]; exact ⟨rfl, rfl⟩))
    (fun os started H enc _ => lifted os started H enc)

theorem proved : Rows.CrcBurstsSaid := over
end Go.Proofs.Ytlbligonpelilaa.crcBursts
