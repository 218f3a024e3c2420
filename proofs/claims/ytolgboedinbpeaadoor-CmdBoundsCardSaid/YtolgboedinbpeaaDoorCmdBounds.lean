/-
  Proved: for every op, client, number and two lengths the law CmdBounds returns true and leaves its inputs as they were; the card ties the three tables of the library that the row lists to the text of the program. No condition beyond the form itself (each text at most 2^47 - 4096 bytes; the listed tables start as that text lays them).
-/
import Derived.Test.YtolgboedinbpeaaDoorCmdL
import Derived.Test.YtolgboedinbpeaaDoorTab
import Derived.Deep.DeepCutAuto
import Derived.Deep.RegionHeld3
import Derived.Test.YtolgboedinbpeaaDoorCards
import Derived.Test.YtolgboedinbpeaaDoorTie
import Derived.Deep.DeepHandedRow
import Derived.LaidMore
import Derived.SevenTiedAt
import Derived.WalkKit
import Derived.ProofKit
import Derived.OpenShut
import Derived.ShutString
import Derived.SizedLaws
import Derived.ChangeOld
import Derived.Below
import Derived.Carry
import Derived.Lib.SmallJoins
import Derived.Deep.SlicePairs
import Derived.SliceStrings
namespace Go.Proofs.YtolgboedinbpeaaDoor.cmdBounds
open Go.ChangeShapes Go.WideShapes Go.ChangeAt Go.RowKit Go.Joins Go.Deep
open Go.ChangeMaps (open_string shut_string)
set_option linter.unusedVariables false

theorem own : ownKnob Tryd.prog.godebug = none := by kernel_rfl
theorem laidOut : laidOutB Tryd.prog = true := by kernel_rfl

set_option maxRecDepth 100000 in
set_option maxHeartbeats 4000000 in
theorem walk (a0 : Int) (a1 : Int) (a2 : Int) (a3 : Int) (a4 : Int) (w : World) (w0 : (Lit.int .i8 a0).wf = true) (w1 : (Lit.int .i8 a1).wf = true) (w2 : (Lit.int .u8 a2).wf = true) (w3 : (Lit.int .u8 a3).wf = true) (w4 : (Lit.int .u8 a4).wf = true) (ht : Bl.Tab w) :
    Calls Tryd.prog 7 #[.int .i8 a0, .int .i8 a1, .int .u8 a2, .int .u8 a3, .int .u8 a4] w fun e w' => e = .returned (.bool true) ∧ Below w.heap.size w w' := by
  have q0 : -128 ≤ a0 ∧ a0 ≤ 127 := by simpa [Lit.wf, IntKind.min, IntKind.max, IntKind.signed, IntKind.bits] using w0
  have q1 : -128 ≤ a1 ∧ a1 ≤ 127 := by simpa [Lit.wf, IntKind.min, IntKind.max, IntKind.signed, IntKind.bits] using w1
  have q2 : 0 ≤ a2 ∧ a2 ≤ 255 := by simpa [Lit.wf, IntKind.min, IntKind.max, IntKind.signed, IntKind.bits] using w2
  have q3 : 0 ≤ a3 ∧ a3 ≤ 255 := by simpa [Lit.wf, IntKind.min, IntKind.max, IntKind.signed, IntKind.bits] using w3
  have q4 : 0 ≤ a4 ∧ a4 ≤ 255 := by simpa [Lit.wf, IntKind.min, IntKind.max, IntKind.signed, IntKind.bits] using w4
  have e32 : ∀ m : Int, IntKind.u32.wrap m = m % 4294967296 := fun m => by simp [IntKind.wrap, IntKind.bits, IntKind.signed]
  obtain ⟨o, ho⟩ : ∃ o, a0.tmod 6 = o := ⟨_, rfl⟩
  have hob : -6 ≤ o ∧ o ≤ 6 := by rw [← ho]; exact ⟨by have := Int.tmod_lt_of_pos (-a0) (show (0 : Int) < 6 by decide); rw [Int.neg_tmod] at this; omega, by have := Int.tmod_lt_of_pos a0 (show (0 : Int) < 6 by decide); omega⟩
  have ho2 : IntKind.i64.wrap o = o := Go.IntWalk.i64_in _ (by omega)
  obtain ⟨c, hc⟩ : ∃ c, a1 = c := ⟨_, rfl⟩
  have hc2 : IntKind.i64.wrap a1 = c := by rw [← hc]; exact Go.IntWalk.i64_in _ (by omega)
  obtain ⟨s, hs⟩ : ∃ s, a2.tmod 4 = s := ⟨_, rfl⟩
  have hsb : 0 ≤ s ∧ s ≤ 3 := by rw [← hs, Int.tmod_eq_emod_of_nonneg q2.1]; omega
  have hs2 : IntKind.u32.wrap s = s := by rw [e32]; omega
  obtain ⟨nk, hk⟩ : ∃ n : Nat, a3.tmod 20 = (n : Int) := ⟨(a3.tmod 20).toNat, by rw [Int.tmod_eq_emod_of_nonneg q3.1]; omega⟩
  have hkb : nk ≤ 19 := by rw [Int.tmod_eq_emod_of_nonneg q3.1] at hk; omega
  have hk2 : IntKind.i64.wrap (nk : Int) = (nk : Int) := Go.IntWalk.i64_in _ (by omega)
  obtain ⟨nv, hv⟩ : ∃ n : Nat, a4.tmod 40 = (n : Int) := ⟨(a4.tmod 40).toNat, by rw [Int.tmod_eq_emod_of_nonneg q4.1]; omega⟩
  have hvb : nv ≤ 39 := by rw [Int.tmod_eq_emod_of_nonneg q4.1] at hv; omega
  have hv2 : IntKind.i64.wrap (nv : Int) = (nv : Int) := Go.IntWalk.i64_in _ (by omega)
  obtain ⟨ks, M1, nks, mk1, Z1, RC1⟩ := Cm.zeros_of nk (by omega)
  obtain ⟨vs, M2, nvs, mk2, Z2, RC2⟩ := Cm.zeros_of nv (by omega)
  obtain ⟨z, ZZ⟩ : ∃ z, Hid (decide (o = 0 ∧ c = 0 ∧ s = 0 ∧ ks.size = 0 ∧ vs.size = 0) = z) := ⟨_, Lib.hid rfl⟩
  obtain ⟨wn, WW⟩ : ∃ z, Hid (decide (1 ≤ o ∧ o ≤ 3 ∧ 1 ≤ c ∧ c ≤ 64 ∧ 1 ≤ s ∧ 1 ≤ ks.size ∧ ks.size ≤ 16 ∧ vs.size ≤ 32 ∧ (o = 1 ∨ vs.size = 0)) = z) := ⟨_, Lib.hid rfl⟩
  have hr : Cm.rightC o c s ks vs = (wn || z) := by
    rw [← ZZ.out, ← WW.out, Bool.eq_iff_iff, Cm.rightC_iff, Bool.or_eq_true, decide_eq_true_eq, decide_eq_true_eq]
    constructor
    · rintro (⟨h1, h2, h3, rfl, rfl⟩ | h)
      · exact .inr ⟨h1, h2, h3, rfl, rfl⟩
      · exact .inl h
    · rintro (h | ⟨h1, h2, h3, h4, h5⟩)
      · exact .inr h
      · exact .inl ⟨h1, h2, h3, Cm.size0 _ h4, Cm.size0 _ h5⟩
  obtain ⟨y, hy⟩ : ∃ y, Cm.bytesC o c s ks vs = (y, wn || z) := by
    unfold Cm.bytesC
    rw [hr]
    cases h : (wn || z)
    · exact ⟨_, rfl⟩
    · exact ⟨_, rfl⟩
  have HR := Lib.hid hr
  have HY := Lib.hid hy
  have hs0 := hsb.1
  have hs4 : s ≤ 4294967295 := by omega
  clear hr hy hc w0 w1 w2 w3 w4 q0 q1 q2 q3 q4 e32 hob hsb hkb hvb nks nvs
  go_enter Tryd.func7, Tryd.ntmps7
  go_wp2_with fail
  refine (Cm.examples_any _ ht).mono ?_
  rintro e x1 ⟨rfl, hb⟩
  have belb : Below w.heap.size w x1 := hb
  have htb := Bl.Tab.over ht hb; clear ht
  clear hb
  have ht := htb; clear htb
  have bel := belb; clear belb
  go_upto_region 4 with fail
  clear ht
  go_cut [12] (fun s12 wx => ∃ g, s12 = .pointer (some ⟨g, 0, none⟩) ∧ Rw.Row wx g [.int .i64 o, .int .i64 c, .int .u32 s, .string ks, .string vs] ∧ Below w.heap.size w wx)
  case first =>
    have rc1 := RC1.out (x1.alloc (.cells M1 5)).drew (x1.heap.size) (Crc.Bytes.drew (Z1.out (x1) (x1.heap.size) (by simp)))
    have rc2 := RC1.out ((x1.alloc (.cells M1 5)).alloc (.cells M2 5)).drew (x1.heap.size) (Crc.Bytes.drew ((Z1.out (x1) (x1.heap.size) (by simp)).keep (Rw.below_1 _ _) (by simp)))
    have rc3 := RC1.out ((x1.alloc (.cells M1 5)).alloc (.cells #[.int .i64 0, .int .i64 0, .int .u32 0, .string ⟨#[]⟩, .string ⟨#[]⟩] 24)).drew (x1.heap.size) (Crc.Bytes.drew ((Z1.out (x1) (x1.heap.size) (by simp)).keep (Rw.below_1 _ _) (by simp)))
    have rc4 := RC1.out ((x1.alloc (.cells M2 5)).alloc (.cells M1 5)).drew (x1.heap.size + 1) (Crc.Bytes.drew (Z1.out (x1.alloc (.cells M2 5)) (x1.heap.size + 1) (by simp)))
    have rc5 := RC1.out ((x1.alloc (.cells #[.int .i64 0, .int .i64 0, .int .u32 0, .string ⟨#[]⟩, .string ⟨#[]⟩] 24)).alloc (.cells M1 5)).drew (x1.heap.size + 1) (Crc.Bytes.drew (Z1.out (x1.alloc (.cells #[.int .i64 0, .int .i64 0, .int .u32 0, .string ⟨#[]⟩, .string ⟨#[]⟩] 24)) (x1.heap.size + 1) (by simp)))
    have rc6 := RC1.out (((x1.alloc (.cells M1 5)).alloc (.cells M2 5)).alloc (.cells #[.int .i64 0, .int .i64 0, .int .u32 0, .string ⟨#[]⟩, .string ⟨#[]⟩] 24)).drew (x1.heap.size) (Crc.Bytes.drew ((Z1.out (x1) (x1.heap.size) (by simp)).keep (Rw.below_2 _ _ _) (by simp)))
    have rc7 := RC1.out (((x1.alloc (.cells M1 5)).alloc (.cells #[.int .i64 0, .int .i64 0, .int .u32 0, .string ⟨#[]⟩, .string ⟨#[]⟩] 24)).alloc (.cells M2 5)).drew (x1.heap.size) (Crc.Bytes.drew ((Z1.out (x1) (x1.heap.size) (by simp)).keep (Rw.below_2 _ _ _) (by simp)))
    have rc8 := RC1.out (((x1.alloc (.cells M2 5)).alloc (.cells M1 5)).alloc (.cells #[.int .i64 0, .int .i64 0, .int .u32 0, .string ⟨#[]⟩, .string ⟨#[]⟩] 24)).drew (x1.heap.size + 1) (Crc.Bytes.drew ((Z1.out (x1.alloc (.cells M2 5)) (x1.heap.size + 1) (by simp)).keep (Rw.below_1 _ _) (by simp)))
    have rc9 := RC1.out (((x1.alloc (.cells M2 5)).alloc (.cells #[.int .i64 0, .int .i64 0, .int .u32 0, .string ⟨#[]⟩, .string ⟨#[]⟩] 24)).alloc (.cells M1 5)).drew (x1.heap.size + 1 + 1) (Crc.Bytes.drew (Z1.out ((x1.alloc (.cells M2 5)).alloc (.cells #[.int .i64 0, .int .i64 0, .int .u32 0, .string ⟨#[]⟩, .string ⟨#[]⟩] 24)) (x1.heap.size + 1 + 1) (by simp)))
    have rc10 := RC1.out (((x1.alloc (.cells #[.int .i64 0, .int .i64 0, .int .u32 0, .string ⟨#[]⟩, .string ⟨#[]⟩] 24)).alloc (.cells M1 5)).alloc (.cells M2 5)).drew (x1.heap.size + 1) (Crc.Bytes.drew ((Z1.out (x1.alloc (.cells #[.int .i64 0, .int .i64 0, .int .u32 0, .string ⟨#[]⟩, .string ⟨#[]⟩] 24)) (x1.heap.size + 1) (by simp)).keep (Rw.below_1 _ _) (by simp)))
    have rc11 := RC1.out (((x1.alloc (.cells #[.int .i64 0, .int .i64 0, .int .u32 0, .string ⟨#[]⟩, .string ⟨#[]⟩] 24)).alloc (.cells M2 5)).alloc (.cells M1 5)).drew (x1.heap.size + 1 + 1) (Crc.Bytes.drew (Z1.out ((x1.alloc (.cells #[.int .i64 0, .int .i64 0, .int .u32 0, .string ⟨#[]⟩, .string ⟨#[]⟩] 24)).alloc (.cells M2 5)) (x1.heap.size + 1 + 1) (by simp)))
    have rc12 := RC2.out (x1.alloc (.cells M2 5)).drew (x1.heap.size) (Crc.Bytes.drew (Z2.out (x1) (x1.heap.size) (by simp)))
    have rc13 := RC2.out ((x1.alloc (.cells M1 5)).alloc (.cells M2 5)).drew (x1.heap.size + 1) (Crc.Bytes.drew (Z2.out (x1.alloc (.cells M1 5)) (x1.heap.size + 1) (by simp)))
    have rc14 := RC2.out ((x1.alloc (.cells M2 5)).alloc (.cells M1 5)).drew (x1.heap.size) (Crc.Bytes.drew ((Z2.out (x1) (x1.heap.size) (by simp)).keep (Rw.below_1 _ _) (by simp)))
    have rc15 := RC2.out ((x1.alloc (.cells M2 5)).alloc (.cells #[.int .i64 0, .int .i64 0, .int .u32 0, .string ⟨#[]⟩, .string ⟨#[]⟩] 24)).drew (x1.heap.size) (Crc.Bytes.drew ((Z2.out (x1) (x1.heap.size) (by simp)).keep (Rw.below_1 _ _) (by simp)))
    have rc16 := RC2.out ((x1.alloc (.cells #[.int .i64 0, .int .i64 0, .int .u32 0, .string ⟨#[]⟩, .string ⟨#[]⟩] 24)).alloc (.cells M2 5)).drew (x1.heap.size + 1) (Crc.Bytes.drew (Z2.out (x1.alloc (.cells #[.int .i64 0, .int .i64 0, .int .u32 0, .string ⟨#[]⟩, .string ⟨#[]⟩] 24)) (x1.heap.size + 1) (by simp)))
    have rc17 := RC2.out (((x1.alloc (.cells M1 5)).alloc (.cells M2 5)).alloc (.cells #[.int .i64 0, .int .i64 0, .int .u32 0, .string ⟨#[]⟩, .string ⟨#[]⟩] 24)).drew (x1.heap.size + 1) (Crc.Bytes.drew ((Z2.out (x1.alloc (.cells M1 5)) (x1.heap.size + 1) (by simp)).keep (Rw.below_1 _ _) (by simp)))
    have rc18 := RC2.out (((x1.alloc (.cells M1 5)).alloc (.cells #[.int .i64 0, .int .i64 0, .int .u32 0, .string ⟨#[]⟩, .string ⟨#[]⟩] 24)).alloc (.cells M2 5)).drew (x1.heap.size + 1 + 1) (Crc.Bytes.drew (Z2.out ((x1.alloc (.cells M1 5)).alloc (.cells #[.int .i64 0, .int .i64 0, .int .u32 0, .string ⟨#[]⟩, .string ⟨#[]⟩] 24)) (x1.heap.size + 1 + 1) (by simp)))
    have rc19 := RC2.out (((x1.alloc (.cells M2 5)).alloc (.cells M1 5)).alloc (.cells #[.int .i64 0, .int .i64 0, .int .u32 0, .string ⟨#[]⟩, .string ⟨#[]⟩] 24)).drew (x1.heap.size) (Crc.Bytes.drew ((Z2.out (x1) (x1.heap.size) (by simp)).keep (Rw.below_2 _ _ _) (by simp)))
    have rc20 := RC2.out (((x1.alloc (.cells M2 5)).alloc (.cells #[.int .i64 0, .int .i64 0, .int .u32 0, .string ⟨#[]⟩, .string ⟨#[]⟩] 24)).alloc (.cells M1 5)).drew (x1.heap.size) (Crc.Bytes.drew ((Z2.out (x1) (x1.heap.size) (by simp)).keep (Rw.below_2 _ _ _) (by simp)))
    have rc21 := RC2.out (((x1.alloc (.cells #[.int .i64 0, .int .i64 0, .int .u32 0, .string ⟨#[]⟩, .string ⟨#[]⟩] 24)).alloc (.cells M1 5)).alloc (.cells M2 5)).drew (x1.heap.size + 1 + 1) (Crc.Bytes.drew (Z2.out ((x1.alloc (.cells #[.int .i64 0, .int .i64 0, .int .u32 0, .string ⟨#[]⟩, .string ⟨#[]⟩] 24)).alloc (.cells M1 5)) (x1.heap.size + 1 + 1) (by simp)))
    have rc22 := RC2.out (((x1.alloc (.cells #[.int .i64 0, .int .i64 0, .int .u32 0, .string ⟨#[]⟩, .string ⟨#[]⟩] 24)).alloc (.cells M2 5)).alloc (.cells M1 5)).drew (x1.heap.size + 1) (Crc.Bytes.drew ((Z2.out (x1.alloc (.cells #[.int .i64 0, .int .i64 0, .int .u32 0, .string ⟨#[]⟩, .string ⟨#[]⟩] 24)) (x1.heap.size + 1) (by simp)).keep (Rw.below_1 _ _) (by simp)))
    have mka := mk1.out
    have mkb := mk2.out
    clear mk1 mk2 RC1 RC2 Z1 Z2 ZZ WW HR HY hs0 hs4
    go_region
    all_goals
      go_wp2_with fail
      go_meet
      first | exact ⟨_, rfl, (((Rw.Row.newAt x1 [.int .i64 o, .int .i64 c, .int .u32 s, .string ks, .string vs] 24 (x1.heap.size) (by simp)).alloc _).alloc _).drew, (Rw.below_then bel (Rw.below_3 _ _ _ _) bel.size).drew⟩ | exact ⟨_, rfl, ((Rw.Row.newAt (x1.alloc _) [.int .i64 o, .int .i64 c, .int .u32 s, .string ks, .string vs] 24 (x1.heap.size + 1) (by simp)).alloc _).drew, (Rw.below_then bel (Rw.below_3 _ _ _ _) bel.size).drew⟩ | exact ⟨_, rfl, (Rw.Row.newAt ((x1.alloc _).alloc _) [.int .i64 o, .int .i64 c, .int .u32 s, .string ks, .string vs] 24 (x1.heap.size + 1 + 1) (by simp)).drew, (Rw.below_then bel (Rw.below_3 _ _ _ _) bel.size).drew⟩
  case rest =>
    clear ho ho2 hc2 hs hs2 hk hk2 hv hv2 mk1 mk2 Z1 Z2 RC1 RC2 bel
    obtain ⟨g, rfl, k12, bel⟩ := hcut
    have ⟨c0, _⟩ := k12.2 0 _ rfl
    have ⟨c1, _⟩ := k12.2 1 _ rfl
    have ⟨c2, _⟩ := k12.2 2 _ rfl
    have ⟨c3, _⟩ := k12.2 3 _ rfl
    have ⟨c4, _⟩ := k12.2 4 _ rfl
    go_upto_region 5 with fail
    go_cut [13] (fun s13 wx => s13 = .bool z ∧ wx = wc)
    case first =>
      go_wp2_with fail
      all_goals
        go_meet
        refine ⟨congrArg Value.bool ?_, rfl⟩
        rw [← ZZ.out, Bool.eq_iff_iff]
        (try simp only [Cm.empty_iff] at *)
        simp only [Cm.isEmpty_size, beq_iff_eq, decide_eq_true_eq, Bool.false_eq_true, false_iff]
        omega
    case rest =>
      obtain ⟨rfl, rfl⟩ := hcut
      go_upto_region 6 with fail
      go_cut [14] (fun s14 wx => s14 = .bool wn ∧ wx = wc)
      case first =>
        go_wp2_with fail
        all_goals
          go_meet
          refine ⟨congrArg Value.bool ?_, rfl⟩
          rw [← WW.out, Bool.eq_iff_iff]
          simp only [Cm.isEmpty_size, Bool.or_eq_true, beq_iff_eq, decide_eq_true_eq, Bool.false_eq_true, true_iff, false_iff]
          omega
      case rest =>
        obtain ⟨rfl, rfl⟩ := hcut
        cases wn <;> cases z
        all_goals
          go_wp2_with fail
          refine (Cm.bytes_any o c s ks vs y _ HY.out hs0 hs4 _).mono ?_
          rintro e x2 ⟨rfl, hb⟩
          have bel2 := Rw.below_then bel hb bel.size
          have k13 := k12.over hb
          have ⟨e0, _⟩ := k13.2 0 _ rfl
          have ⟨e1, _⟩ := k13.2 1 _ rfl
          have ⟨e2, _⟩ := k13.2 2 _ rfl
          have ⟨e3, _⟩ := k13.2 3 _ rfl
          have ⟨e4, _⟩ := k13.2 4 _ rfl
          clear hb bel k12 c0 c1 c2 c3 c4
          go_wp2_with fail
          refine (Cm.right_any o c s ks vs _ HR.out _).mono ?_
          rintro e x3 ⟨rfl, hb⟩
          have bel := Rw.below_then bel2 hb bel2.size
          go_wp2
          go_ret
          exact ⟨rfl, bel⟩

theorem laid_met (os : Os) : laidMet Tryd.prog Rows.cmdBoundsRow.laid ((World.doorLaid Tryd.prog 24 os).forCall (fun _ _ => 0) ⟨#[], #[.int .i8 0, .int .i8 0, .int .u8 0, .int .u8 0, .int .u8 0], []⟩).memory :=
  laidMet_of_run' 8 (by kernel_rfl) (by kernel_rfl)
theorem reads (os : Os) {H : Type} (enc : TypeId × Value → H) : ∃ places, DataW.whole enc Tryd.prog ((World.doorLaid Tryd.prog 24 os).forCall (fun _ _ => 0) ⟨#[], #[.int .i8 0, .int .i8 0, .int .u8 0, .int .u8 0, .int .u8 0], []⟩).memory Tryd.f7.params.toList Rows.cmdBoundsSpec.vars false (#[.int .i8 0, .int .i8 0, .int .u8 0, .int .u8 0, .int .u8 0] : Array Value).toList 8 = some ([.lit (.int .i8 0), .lit (.int .i8 0), .lit (.int .u8 0), .lit (.int .u8 0), .lit (.int .u8 0)], [], places) :=
  ⟨[], by kernel_rfl⟩

set_option maxRecDepth 100000 in
theorem lifted (os : Os) (started : os.Started) (H : Type) (enc : TypeId × Value → H) (F : Stop.Interp) :
    ReturnsInHanded {} Tryd.checked os 7 .any ((OpenSpec.ofChange Rows.cmdBoundsSpec).preRow enc Tryd.prog Tryd.f7 Rows.cmdBoundsRow.domain false Rows.cmdBoundsRow.laid) (((OpenSpec.ofChange Rows.cmdBoundsSpec).at F).post enc Tryd.prog Tryd.f7 false true false false) := by
  obtain ⟨places, hx⟩ := reads os enc
  refine returnsInHanded_of_row (C := Tryd.checked) (s := OpenSpec.ofChange Rows.cmdBoundsSpec) own started (by kernel_rfl) Tryd.func7
    (witness_row_at (enc := enc) (C := Tryd.checked) false (World.doorLaid Tryd.prog 24 os) #[.int .i8 0, .int .i8 0, .int .u8 0, .int .u8 0, .int .u8 0] rfl (by kernel_rfl) (by kernel_rfl) (by kernel_rfl)
      (OpenSpec.preRow_of_cond 8 hx (by kernel_rfl) (fun k hk => by cases hk) (by kernel_rfl) (laid_met os))) ?_
  intro W base args ds gs before hval0 hW _ _ hsz0 hL _ _
  have hval : ∀ (j : Nat) t v, Tryd.f7.params[j]? = some t → args[j]? = some v → Value.okWide Tryd.prog W .any base t v := hval0
  have hsz : (DataW.weightsEach Tryd.prog (Tryd.f7.params.toList ++ Rows.cmdBoundsSpec.plain.varTypes Tryd.prog) (ds ++ gs)).all (· ≤ reachBytes) = true := hsz0
  have hW' := hW
  obtain ⟨p, q, hA0, hV, rfl, hfz, hnd⟩ := hW
  have hA : DataW.TrodAll enc Tryd.prog W 0 (fun _ => true) true Tryd.f7.params.toList args.toList ds p := hA0
  rw [Tryd.params7] at hA hval hsz
  obtain ⟨v0, vs0, d0, ds0, p0, q0, hargs, rfl, rfl, h0, r0⟩ := trodAll_cons hA
  obtain ⟨v1, vs1, d1, ds1, p1, q1, rfl, rfl, rfl, h1, r1⟩ := trodAll_cons r0
  obtain ⟨v2, vs2, d2, ds2, p2, q2, rfl, rfl, rfl, h2, r2⟩ := trodAll_cons r1
  obtain ⟨v3, vs3, d3, ds3, p3, q3, rfl, rfl, rfl, h3, r3⟩ := trodAll_cons r2
  obtain ⟨v4, vs4, d4, ds4, p4, q4, rfl, rfl, rfl, h4, r4⟩ := trodAll_cons r3
  obtain ⟨rfl, rfl, rfl⟩ := trodAll_nil r4
  obtain rfl : args = #[v0, v1, v2, v3, v4] := by cases args; simp_all
  obtain ⟨rfl, rfl⟩ := trodVars_none hV
  obtain ⟨a0, rfl, rfl, rfl, w0⟩ := open_int Tryd.underlying51 (hval 0 51 v0 rfl rfl) h0
  obtain ⟨a1, rfl, rfl, rfl, w1⟩ := open_int Tryd.underlying51 (hval 1 51 v1 rfl rfl) h1
  obtain ⟨a2, rfl, rfl, rfl, w2⟩ := open_int Tryd.underlying5 (hval 2 5 v2 rfl rfl) h2
  obtain ⟨a3, rfl, rfl, rfl, w3⟩ := open_int Tryd.underlying5 (hval 3 5 v3 rfl rfl) h3
  obtain ⟨a4, rfl, rfl, rfl, w4⟩ := open_int Tryd.underlying5 (hval 4 5 v4 rfl rfl) h4
  clear hA0 hval0
  refine (walk a0 a1 a2 a3 a4 W w0 w1 w2 w3 w4 (Bl.tab_of hL)).mono fun e W' ⟨he, bel⟩ => ?_
  subst he
  exact ⟨_, rfl, _, _, _, [], _, [], hW', trodAll_mk1 (shut_bool Tryd.underlying4 _), (trodAll_cons_mk (shut_int Tryd.underlying51 w0) (trodAll_cons_mk (shut_int Tryd.underlying51 w1) (trodAll_cons_mk (shut_int Tryd.underlying5 w2) (trodAll_cons_mk (shut_int Tryd.underlying5 w3) (trodAll_cons_mk (shut_int Tryd.underlying5 w4) trodAll_mk0))))), rfl, bel.frame _, fun h => by cases h⟩

theorem over : Rows.cmdBoundsRow.holds Tryd.pinned (OpenSpec.ofChange Rows.cmdBoundsSpec) :=
  OpenClaim.holds_of_cond 7 Tryd.f7 rfl rfl rfl rfl rfl rfl rfl ⟨rfl, rfl, rfl, rfl, rfl⟩ rfl rfl rfl rfl rfl (by kernel_rfl) Tryd.func7 (by kernel_rfl)
    (of_decide_eq_true (by kernel_rfl)) (by unfold Func.isWrapper; first | (rw [if_pos (by decide +kernel)]; kernel_rfl) | (rw [if_neg (by decide +kernel)]; exact ⟨rfl, rfl⟩))
    (fun os started H enc _ F => by rw [OpenClaim.pre_eq_preRow]; exact lifted os started H enc F)

/-- No parameter wants a stand-in. -/
theorem plain (f : FuncId) (fn : Func) (hf : Tryd.pinned.checked.prog.funcNamed "comitia/comitialaw07.CmdBounds" = some f) (hfn : Tryd.pinned.checked.prog.funcs[f]? = some fn) :
    false = Tryd.pinned.checked.prog.looks [] ∧ ∀ (j : Nat) t, fn.params[j]? = some t → Tryd.pinned.checked.prog.wantsStandIn t = false := by
  obtain rfl : f = 7 := Option.some.inj ((show Tryd.prog.funcNamed "comitia/comitialaw07.CmdBounds" = some 7 by kernel_rfl).symm.trans hf) |>.symm
  obtain rfl : fn = Tryd.f7 := (Option.some.inj (Tryd.func7.symm.trans hfn)).symm
  refine ⟨by kernel_rfl, fun j t ht => ?_⟩
  rw [Tryd.params7] at ht
  have hm : t ∈ [51, 51, 5, 5, 5] := by simpa using Array.mem_of_getElem? ht
  have hall : ([51, 51, 5, 5, 5].all fun u => !Tryd.prog.wantsStandIn u) = true := by kernel_rfl
  exact (show Tryd.prog.wantsStandIn t = false by simpa using List.all_eq_true.1 hall t hm)

theorem proved : Rows.CmdBoundsCardSaid :=
  Claim7.holds_tied_plain_at .later [] _ _ _ _ over (fun _ h => by cases h) (by kernel_rfl) (fun _ h => by cases h) cmdBounds_row_tie rfl ⟨rfl, rfl⟩ (by kernel_rfl) rfl plain (by kernel_rfl)
end Go.Proofs.YtolgboedinbpeaaDoor.cmdBounds
