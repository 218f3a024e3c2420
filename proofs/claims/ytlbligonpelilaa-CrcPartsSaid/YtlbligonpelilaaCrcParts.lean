/-
  Proved: for every two texts and every bit the law CrcParts returns true and leaves its inputs as they were. No condition beyond the form's own reach (each text at most 2^47 - 4096 bytes).
-/
import Derived.Test.YtlbligonpelilaaCrcE
import Derived.Test.YtlbligonpelilaaCrcB
import Derived.WalkKit
import Derived.ProofKit
import Derived.OpenShut
import Derived.ShutString
import Derived.SizedLaws
import Derived.ChangeOld
import Derived.Below
namespace Go.Proofs.Ytlbligonpelilaa.crcParts
open Go.ChangeShapes Go.WideShapes Go.ChangeAt Go.RowKit
open Go.ChangeMaps (open_string shut_string)
set_option linter.unusedVariables false

theorem own : ownKnob Try.prog.godebug = none := by kernel_rfl
theorem laidOut : laidOutB Try.prog = true := by kernel_rfl

/-- WHAT THE WALK IS TOLD OF A SLICE OF INTEGERS THAT CAME IN: it is nil; or it leads to a row of 'cap' cells, the numbers 'zs' (the first 'len' are its elements, the rest its spare room), each fitting its kind. -/
def IsRow (k : IntKind) (w : World) (a : Option Addr) (len cap : Nat) (zs : List Int) : Prop :=
  (a = none ∧ len = 0 ∧ cap = 0 ∧ zs = []) ∨
  ∃ x, a = some x ∧ len ≤ cap ∧ cap ≤ maxLen ∧ zs.length = cap ∧ (∀ i, i < zs.length → w.cell? (x.add i) = some (.int k (zs.getD i 0))) ∧ ∀ n ∈ zs, (Lit.int k n).wf = true

theorem walk (a0 : ByteArray) (a1 : ByteArray) (a2 : Int) (a3 : Int) (w : World) (w0 : a0.size ≤ 140737488351232) (w1 : a1.size ≤ 140737488351232) (w2 : (Lit.int .u16 a2).wf = true) (w3 : (Lit.int .u8 a3).wf = true) :
    Calls Try.prog 4 #[.string a0, .string a1, .int .u16 a2, .int .u8 a3] w fun e w' => e = .returned (.bool true) ∧ Below w.heap.size w w' := by
  have hb2 : 0 ≤ a2 ∧ a2 ≤ 65535 := by simpa [Lit.wf, IntKind.min, IntKind.max, IntKind.signed, IntKind.bits] using w2
  have hb3 : 0 ≤ a3 ∧ a3 ≤ 255 := by simpa [Lit.wf, IntKind.min, IntKind.max, IntKind.signed, IntKind.bits] using w3
  obtain ⟨n2, rfl⟩ := Int.eq_ofNat_of_zero_le hb2.1
  obtain ⟨n3, rfl⟩ := Int.eq_ofNat_of_zero_le hb3.1
  have m0 : a0.size ≤ maxLen := by unfold maxLen; omega
  have m1 : a1.size ≤ maxLen := by unfold maxLen; omega
  have mm : a0.size + a1.size ≤ 9223372036854775807 := by omega
  obtain ⟨all, hall⟩ : ∃ all, a0 ++ a1 = all := ⟨_, rfl⟩
  have ms : all.size ≤ 281474976702464 := by rw [← hall, ByteArray.size_append]; omega
  have ma : all.size ≤ maxLen := by unfold maxLen; omega
  obtain ⟨x, hX⟩ : ∃ x, Crc.add 0 all.data.toList = x := ⟨_, rfl⟩
  have hap : Crc.add (Crc.add 0 a0.data.toList) a1.data.toList = x := by
    rw [Crc.add_append _ _ _ (by omega), ← hX, ← hall]; simp
  have hxl : x < 4294967296 := by rw [← hX]; exact Crc.add_lt _ _
  have hnl : Crc.add x [] = x := Crc.add_nil x hxl
  have hsl := Crc.add_lt 0 a0.data.toList
  have HS := Lib.hid hall
  have HA := Lib.hid hap
  have HN := Lib.hid hnl
  have HX := Lib.hid hX
  clear hap hnl hX hall
  have e1 : ((x : Int) != (x : Int)) = false := by simp
  go_enter Try.func4, Try.ntmps4
  go_wp2_with fail
  refine (Crc.examples_any _).mono ?_
  rintro e w' ⟨rfl, rfl⟩
  go_wp2_with fail
  rw [HS.out]
  refine (Crc.sum_any _ ma _).mono ?_
  rintro e w' ⟨rfl, rfl⟩
  rw [HX.out]
  go_wp2_with fail
  refine (Crc.sum_any _ m0 _).mono ?_
  rintro e w' ⟨rfl, rfl⟩
  go_wp2_with fail
  refine (Crc.add_any _ _ hsl m1 _).mono ?_
  rintro e w' ⟨rfl, rfl⟩
  rw [HA.out]
  go_wp2_with fail
  refine (Crc.add_any _ ⟨#[]⟩ hxl (by decide) _).mono ?_
  rintro e w' ⟨rfl, rfl⟩
  rw [show Crc.add x (ByteArray.mk #[]).data.toList = x from HN.out]
  by_cases hz : all.size = 0
  · have e2 : all.toList.isEmpty = true := by
      rw [ByteArray.toList_eq, List.isEmpty_iff_length_eq_zero]; simpa using hz
    go_wp2
    go_ret
    exact ⟨rfl, Below.refl _ _⟩
  · have e2 : all.toList.isEmpty = false := by
      rw [ByteArray.toList_eq, Bool.eq_false_iff, ne_eq, List.isEmpty_iff_length_eq_zero]; simpa using hz
    have hpos : 0 < all.size := by omega
    have hi : n2 % all.size < all.size := Nat.mod_lt _ hpos
    obtain ⟨cap, W1, hcv, hbel, hsz1, hby⟩ := Crc.conv_bytes (P := Try.prog) w 9 29 5 all Try.underlying9 Try.underlying29 Try.underlying5
    have hl : all.data.toList.length = all.size := by simp
    obtain ⟨v, hv, hc, hf⟩ := hby.at (n2 % all.size) (by omega)
    have hvb := Crc.byte_lt v
    have hne := Crc.add_set_ne all.data.toList (n2 % all.size) v (Crc.turned v n3) hv (Crc.turned_ne v n3)
    have hset := hby.set (n2 % all.size) (Crc.turned v n3) (by omega)
    have hls : (all.data.toList.set (n2 % all.size) (Crc.turned v n3)).length = all.size := by simp
    have hbel2 : Below w.heap.size w (W1.setCell ⟨w.heap.size, n2 % all.size, none⟩ (.int .u8 ((Crc.turned v n3).toNat : Int))) := hbel.setCell (Nat.le_refl _) _
    rw [show Crc.add 0 all.data.toList = x from HX.out] at hne
    clear hv hby hl hbel hsz1
    go_wp2_with fail
    rw [Crc.turn_walk]
    generalize all.data.toList.set (n2 % all.size) (Crc.turned v n3) = l2 at *
    generalize W1.setCell ⟨w.heap.size, n2 % all.size, none⟩ (.int .u8 ((Crc.turned v n3).toNat : Int)) = W2 at *
    have hbk := hset.back (P := Try.prog) 29 9 5 cap Try.underlying29 Try.underlying5 Try.underlying9
    rw [hls] at hbk
    have m2 : (ByteArray.mk l2.toArray).size ≤ maxLen := by
      show l2.toArray.size ≤ maxLen
      rw [List.size_toArray, hls]; exact ma
    have hq : ((Crc.add 0 l2 : Nat) : Int) ≠ (x : Int) := by omega
    have q1 : (((Crc.add 0 l2 : Nat) : Int) != (x : Int)) = true := by simpa using hq
    have q2 : (((Crc.add 0 l2 : Nat) : Int) == (x : Int)) = false := by simpa using hq
    clear hq hne hls hset hc hf hvb hcv
    go_simp
    go_wp2_with fail
    refine (Crc.sum_any _ m2 _).mono ?_
    rintro e w' ⟨rfl, rfl⟩
    rw [show (ByteArray.mk l2.toArray).data.toList = l2 from rfl]
    go_wp2_with fail
    refine (Crc.check_any _ x m2 _).mono ?_
    rintro e w' ⟨rfl, rfl⟩
    rw [show (ByteArray.mk l2.toArray).data.toList = l2 from rfl]
    go_wp2
    go_ret
    exact ⟨rfl, hbel2⟩

set_option maxRecDepth 100000 in
theorem lifted (os : Os) (started : os.Started) (H : Type) (enc : TypeId × Value → H) :
    ReturnsInHanded {} Try.checked os 4 .any (Rows.crcPartsSpec.pre6 enc Try.prog Try.f4 Rows.crcPartsRow.domain false) (Rows.crcPartsSpec.post enc Try.prog Try.f4 false true false false) := by
  refine returnsInHanded_of_change_sized (C := Try.checked) own started (by kernel_rfl) Try.func4
    (ChangeSpec.witness6 (enc := enc) (C := Try.checked) false ⟨#[], #[.string ByteArray.empty, .string ByteArray.empty, .int .u16 0, .int .u8 0], []⟩ 8 (by kernel_rfl) (by kernel_rfl) (by kernel_rfl) (by kernel_rfl)) ?_
  intro W base args ds gs before hval0 hW hcnd hsz0 _
  have hval : ∀ (j : Nat) t v, Try.f4.params[j]? = some t → args[j]? = some v → Value.okWide Try.prog W .any base t v := hval0
  have hsz : (DataW.weightsEach Try.prog (Try.f4.params.toList ++ Rows.crcPartsSpec.plain.varTypes Try.prog) (ds ++ gs)).all (· ≤ reachBytes) = true := hsz0
  have hW' := hW
  obtain ⟨p, q, hA0, hV, rfl, hfz, hnd⟩ := hW
  have hA : DataW.TrodAll enc Try.prog W 0 (fun _ => true) true Try.f4.params.toList args.toList ds p := hA0
  rw [Try.params4] at hA hval hsz
  obtain ⟨v0, vs0, d0, ds0, p0, q0, hargs, rfl, rfl, h0, r0⟩ := trodAll_cons hA
  obtain ⟨v1, vs1, d1, ds1, p1, q1, rfl, rfl, rfl, h1, r1⟩ := trodAll_cons r0
  obtain ⟨v2, vs2, d2, ds2, p2, q2, rfl, rfl, rfl, h2, r2⟩ := trodAll_cons r1
  obtain ⟨v3, vs3, d3, ds3, p3, q3, rfl, rfl, rfl, h3, r3⟩ := trodAll_cons r2
  obtain ⟨rfl, rfl, rfl⟩ := trodAll_nil r3
  obtain rfl : args = #[v0, v1, v2, v3] := by cases args; simp_all
  obtain ⟨rfl, rfl⟩ := trodVars_none hV
  obtain ⟨a0, rfl, rfl, rfl, w0⟩ := open_string Try.underlying9 (hval 0 9 v0 rfl rfl) h0
  obtain ⟨a1, rfl, rfl, rfl, w1⟩ := open_string Try.underlying9 (hval 1 9 v1 rfl rfl) h1
  obtain ⟨a2, rfl, rfl, rfl, w2⟩ := open_int Try.underlying28 (hval 2 28 v2 rfl rfl) h2
  obtain ⟨a3, rfl, rfl, rfl, w3⟩ := open_int Try.underlying5 (hval 3 5 v3 rfl rfl) h3
  clear hA0 hval0
  have z0 : a0.size ≤ 140737488351232 := by
    have := sized_string hsz (j := 0) (t := 9) rfl rfl
    simp only [Array.length_toList, reachBytes] at this
    exact this
  have z1 : a1.size ≤ 140737488351232 := by
    have := sized_string hsz (j := 1) (t := 9) rfl rfl
    simp only [Array.length_toList, reachBytes] at this
    exact this
  refine (walk a0 a1 a2 a3 W z0 z1 w2 w3).mono fun e W' ⟨he, bel⟩ => ?_
  subst he
  exact ⟨_, rfl, _, _, _, [], _, [], hW', trodAll_mk1 (shut_bool Try.underlying4 _), (trodAll_cons_mk (shut_string Try.underlying9 w0) (trodAll_cons_mk (shut_string Try.underlying9 w1) (trodAll_cons_mk (shut_int Try.underlying28 w2) (trodAll_cons_mk (shut_int Try.underlying5 w3) trodAll_mk0)))), rfl, bel.frame _, fun h => by cases h⟩

theorem over : Rows.crcPartsRow.holds Try.pinned (OpenSpec.ofChange Rows.crcPartsSpec) :=
  OpenClaim.holds_of_wide 4 Try.f4 rfl rfl rfl rfl rfl rfl rfl ⟨rfl, rfl, rfl, rfl, rfl⟩ rfl rfl rfl rfl rfl (by kernel_rfl) Try.func4 (by kernel_rfl)
    (of_decide_eq_true (by kernel_rfl)) (by unfold Func.isWrapper; first | (rw [if_pos (by decide +kernel)]; kernel_rfl) | (rw [if_neg (by decide +kernel)]; exact ⟨rfl, rfl⟩))
    (fun os started H enc _ => lifted os started H enc)

theorem proved : Rows.CrcPartsSaid := over
end Go.Proofs.Ytlbligonpelilaa.crcParts
