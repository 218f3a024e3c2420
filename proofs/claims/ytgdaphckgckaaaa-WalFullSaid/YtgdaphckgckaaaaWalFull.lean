/-
  Proved: for every number of 8 bits and every two texts the law WalFull returns true and leaves its inputs as they were. No condition beyond the form's own reach (each text at most 2^47 - 4096 bytes).
-/
import Derived.Test.YtgdaphckgckaaaaWalP
import Derived.Test.YtgdaphckgckaaaaDiskZ
import Derived.WalkKit
import Derived.ProofKit
import Derived.OpenShut
import Derived.ShutString
import Derived.SizedLaws
import Derived.ChangeOld
import Derived.Below
import Derived.Carry
import Derived.Lib.SmallJoins
import Derived.Deep.SlicePairs
import Derived.SliceStrings
import Derived.RegionTactic
import Derived.Laws.Small
import Derived.Lib.Strings
namespace Go.Proofs.Ytgdaphckgckaaaa.walFull
open Go.ChangeShapes Go.WideShapes Go.ChangeAt Go.RowKit Go.Joins Go.Deep
open Go.ChangeMaps (open_string shut_string)
set_option linter.unusedVariables false

theorem own : ownKnob Try.prog.godebug = none := by kernel_rfl
theorem laidOut : laidOutB Try.prog = true := by kernel_rfl

set_option maxRecDepth 100000 in
set_option maxHeartbeats 4000000 in
theorem walk (a0 : Int) (a1 : ByteArray) (a2 : ByteArray) (w : World) (w0 : (Lit.int .u8 a0).wf = true) (z1 : a1.size ≤ 140737488351232) (z2 : a2.size ≤ 140737488351232) :
    Calls Try.prog 7 #[.int .u8 a0, .string a1, .string a2] w fun e w' => e = .returned (.bool true) ∧ Below w.heap.size w w' := by
  have hb0 : 0 ≤ a0 ∧ a0 ≤ 255 := by simpa [Lit.wf, IntKind.min, IntKind.max, IntKind.signed, IntKind.bits] using w0
  obtain ⟨n, rfl⟩ := Int.eq_ofNat_of_zero_le hb0.1
  have hn : n ≤ 255 := by omega
  clear w0 hb0
  obtain ⟨m, hmin, u0, v0, k0, e0⟩ := Dk.cut_min a1 150 150 rfl
  obtain ⟨m', hmin', u1, v1, k1, e1⟩ := Dk.cut_min a2 150 150 rfl
  obtain ⟨X, hX⟩ : ∃ X, a1.extract 0 m = X := ⟨_, rfl⟩
  obtain ⟨Y, hY⟩ : ∃ Y, a2.extract 0 m' = Y := ⟨_, rfl⟩
  rw [hX] at e0
  rw [hY] at e1
  obtain ⟨mA, sA, -⟩ := Wl.one_of 97 X m e0 (by omega)
  obtain ⟨mB, sB, -⟩ := Wl.one_of 98 Y m' e1 (by omega)
  have xX : (⟨#[97]⟩ : ByteArray).size + X.size ≤ 9223372036854775807 := by rw [← ByteArray.size_append]; omega
  have xY : (⟨#[98]⟩ : ByteArray).size + Y.size ≤ 9223372036854775807 := by rw [← ByteArray.size_append]; omega
  obtain ⟨A, hA⟩ : ∃ A, (⟨#[97]⟩ : ByteArray) ++ X = A := ⟨_, rfl⟩
  obtain ⟨B, hB⟩ : ∃ B, (⟨#[98]⟩ : ByteArray) ++ Y = B := ⟨_, rfl⟩
  rw [hA] at mA sA
  rw [hB] at mB sB
  have MA := Lib.hid mA
  have MB := Lib.hid mB
  have xA : A.size ≤ 151 := by omega
  have xB : B.size ≤ 151 := by omega
  have HC := Lib.hid (show (1 : Int) + (n : Int) = ((n + 1 : Nat) : Int) by omega)
  have hz := Dk.zeroText_size 8193
  have hmk : ∀ W, (Instr.makeSlice 59 (.int .i64 8193) (.int .i64 8193)).run Try.prog W = .ok (.slice (some ⟨W.heap.size, 0, none⟩) 8193 8193) (W.alloc (.cells (Dk.zeros 8193) 5)) := fun W => Dk.make_zeros 8193 (by omega) W
  have hcv := Dk.conv_zeros 8193
  have hnz : ¬ Wl.may (Dk.zeroText 8193) := by unfold Wl.may; rw [hz]; omega
  have HNZ := Lib.hid hnz
  clear mA mB sA sB e0 e1 hnz
  generalize Dk.zeroText 8193 = Z at *
  generalize Dk.zeros 8193 = M at *
  go_enter Try.func7, Try.ntmps7
  go_wp2_with fail
  refine (Wl.examples_any _).mono ?_
  rintro e x1 ⟨rfl, b1⟩
  have hs := b1.size
  go_wp2_with fail
  rw [HC.out]
  refine (Dk.new_yes (n + 1) (by omega) (by omega) _).mono ?_
  rintro e x2 ⟨rfl, hD, hb⟩
  have b2 := Dk.behind b1 hb
  obtain ⟨g, hg⟩ : ∃ g, x1.heap.size = g := ⟨_, rfl⟩
  rw [hg] at hD hs
  rw [hg]
  clear hb b1 hg
  go_wp2_with fail
  refine (Wl.open_any hD [] Wl.scan_nil).mono ?_
  rintro e x3 ⟨a, v, rfl, hD3, hL3, hF3⟩
  have hL := hL3.mono hD.heap
  have b3 := b2.trans (hF3.below.mono hs)
  clear hD b2 hF3 hL3
  go_wp2_with fail
  refine (Wl.put_any hD3 hL A MA.out (by simp) (Nat.le_refl _)).mono ?_
  rintro e x4 ⟨v4, c4, l4, rs4, rfl, hD4, hL4, hF4, -, h4⟩
  have b4 := b3.trans (hF4.below.mono hs)
  have hk4 : rs4.length ≤ 1 := by rcases h4 with ⟨_, _, rfl, _⟩ | ⟨_, _, rfl, _⟩ <;> simp
  clear hD3 hL b3 hF4
  go_wp2_with fail
  refine (Wl.records_any hL4 (by omega)).mono ?_
  rintro e x5 ⟨u5, rfl, hown, hb⟩
  obtain ⟨ao, cap, rfl⟩ := Dk.own_form hown
  have hD5 := hD4.below hb
  have hL5 := hL4.below hb
  have b5 := Dk.behind b4 hb
  clear hD4 hL4 b4 hb hown
  go_wp2_with fail
  refine (Wl.bytes_len hD5).mono ?_
  rintro e x6 ⟨y6, rfl, -, hy6, hD6, hb⟩
  have hL6 := hL5.below hb
  have b6 := Dk.behind b5 hb
  have hl6 := hD6.len_le
  clear hD5 hL5 b5 hb
  go_wp2_with fail
  refine (Wl.put_any hD6 hL6 B MB.out (by omega) (Nat.le_refl _)).mono ?_
  rintro e x7 ⟨v7, c7, l7, rs7, rfl, hD7, hL7, hF7, -, h7⟩
  have b7 := b6.trans (hF7.below.mono hs)
  clear hD6 hL6 b6 hF7
  go_wp2_with fail
  refine (Wl.putnone_any hD7 hL7 ⟨#[]⟩ Wl.no_nil (by decide)).mono ?_
  rintro e x8 ⟨rfl, hD8, hL8, hb⟩
  have b8 := Dk.behind b7 hb
  clear hD7 hL7 b7 hb
  go_wp2_with fail
  have hba : Below x8.heap.size x8 (x8.alloc (.cells M 5)) := (Below.refl _ _).alloc (Nat.le_refl _) _
  have hD9 := hD8.below hba
  have hL9 := hL8.below hba
  have b9 := Dk.behind b8 hba
  clear hD8 hL8 b8 hba hmk hcv
  refine (Wl.putnone_any hD9 hL9 Z HNZ.out (by unfold maxLen; omega)).mono ?_
  rintro e x9 ⟨rfl, hD10, hL10, hb⟩
  have b10 := Dk.behind b9 hb
  obtain ⟨z, hz4⟩ : ∃ z, l4.length = z := ⟨_, rfl⟩
  obtain ⟨k, hk4'⟩ : ∃ k, rs4.length = k := ⟨_, rfl⟩
  have H4 : (c4 = 0 ∧ z = A.size + 6 ∧ k = 1 ∧ A.size + 6 ≤ n + 1) ∨ (c4 = 4 ∧ z = 0 ∧ k = 0 ∧ n + 1 < A.size + 6) := by
    rcases h4 with ⟨h1, rfl, rfl, h2⟩ | ⟨h1, rfl, rfl, h2⟩
    · left
      rw [List.length_append, Wl.frl_length, show (Wl.frames []).length = 0 from rfl] at hz4
      rw [List.nil_append, List.length_singleton] at hk4'
      rw [show (Wl.frames []).length = 0 from rfl] at h2
      omega
    · right
      rw [show (Wl.frames []).length = 0 from rfl] at hz4 h2
      rw [List.length_nil] at hk4'
      omega
  have H7 : (c7 = 0 ∧ z + (B.size + 6) ≤ n + 1) ∨ (c7 = 4 ∧ n + 1 < z + (B.size + 6)) := by
    rw [hz4] at h7
    rcases h7 with ⟨h1, _, _, h2⟩ | ⟨h1, _, _, h2⟩
    · exact .inl ⟨h1, h2⟩
    · exact .inr ⟨h1, h2⟩
  rw [hz4, hk4']
  clear hD9 hL9 b9 hb h4 h7 hz4 hk4' hk4 hl6 hy6
  have hL11 := hL10
  clear hD10 hL10
  rcases H4 with ⟨rfl, rfl, rfl, h4⟩ | ⟨rfl, rfl, rfl, h4⟩
  · have q4 : decide ((A.size : Int) + 6 ≤ 1 + (n : Int)) = true := decide_eq_true (by omega)
    rcases H7 with ⟨rfl, h7⟩ | ⟨rfl, h7⟩
    · have q7 : decide ((A.size : Int) + 6 + (B.size : Int) + 6 ≤ 1 + (n : Int)) = true := decide_eq_true (by omega)
      go_wp2_with fail
      refine (Wl.synced_any hL11).mono ?_
      rintro e x10 ⟨rfl, rfl⟩
      go_wp2
      go_ret
      exact ⟨rfl, b10⟩
    · have q7 : decide ((A.size : Int) + 6 + (B.size : Int) + 6 ≤ 1 + (n : Int)) = false := decide_eq_false (by omega)
      go_wp2_with fail
      refine (Wl.synced_any hL11).mono ?_
      rintro e x10 ⟨rfl, rfl⟩
      go_wp2
      go_ret
      exact ⟨rfl, b10⟩
  · have q4 : decide ((A.size : Int) + 6 ≤ 1 + (n : Int)) = false := decide_eq_false (by omega)
    rcases H7 with ⟨rfl, h7⟩ | ⟨rfl, h7⟩
    · have q7 : decide ((B.size : Int) + 6 ≤ 1 + (n : Int)) = true := decide_eq_true (by omega)
      go_wp2_with fail
      refine (Wl.synced_any hL11).mono ?_
      rintro e x10 ⟨rfl, rfl⟩
      go_wp2
      go_ret
      exact ⟨rfl, b10⟩
    · have q7 : decide ((B.size : Int) + 6 ≤ 1 + (n : Int)) = false := decide_eq_false (by omega)
      go_wp2_with fail
      refine (Wl.synced_any hL11).mono ?_
      rintro e x10 ⟨rfl, rfl⟩
      go_wp2
      go_ret
      exact ⟨rfl, b10⟩

set_option maxRecDepth 100000 in
theorem lifted (os : Os) (started : os.Started) (H : Type) (enc : TypeId × Value → H) :
    ReturnsInHanded {} Try.checked os 7 .any (Rows.walFullSpec.pre6 enc Try.prog Try.f7 Rows.walFullRow.domain false) (Rows.walFullSpec.post enc Try.prog Try.f7 false true false false) := by
  refine returnsInHanded_of_change_sized (C := Try.checked) own started (by kernel_rfl) Try.func7
    (ChangeSpec.witness6 (enc := enc) (C := Try.checked) false ⟨#[], #[.int .u8 0, .string ByteArray.empty, .string ByteArray.empty], []⟩ 8 (by kernel_rfl) (by kernel_rfl) (by kernel_rfl) (by kernel_rfl)) ?_
  intro W base args ds gs before hval0 hW hcnd hsz0 _
  have hval : ∀ (j : Nat) t v, Try.f7.params[j]? = some t → args[j]? = some v → Value.okWide Try.prog W .any base t v := hval0
  have hsz : (DataW.weightsEach Try.prog (Try.f7.params.toList ++ Rows.walFullSpec.plain.varTypes Try.prog) (ds ++ gs)).all (· ≤ reachBytes) = true := hsz0
  have hW' := hW
  obtain ⟨p, q, hA0, hV, rfl, hfz, hnd⟩ := hW
  have hA : DataW.TrodAll enc Try.prog W 0 (fun _ => true) true Try.f7.params.toList args.toList ds p := hA0
  rw [Try.params7] at hA hval hsz
  obtain ⟨v0, vs0, d0, ds0, p0, q0, hargs, rfl, rfl, h0, r0⟩ := trodAll_cons hA
  obtain ⟨v1, vs1, d1, ds1, p1, q1, rfl, rfl, rfl, h1, r1⟩ := trodAll_cons r0
  obtain ⟨v2, vs2, d2, ds2, p2, q2, rfl, rfl, rfl, h2, r2⟩ := trodAll_cons r1
  obtain ⟨rfl, rfl, rfl⟩ := trodAll_nil r2
  obtain rfl : args = #[v0, v1, v2] := by cases args; simp_all
  obtain ⟨rfl, rfl⟩ := trodVars_none hV
  obtain ⟨a0, rfl, rfl, rfl, w0⟩ := open_int Try.underlying5 (hval 0 5 v0 rfl rfl) h0
  obtain ⟨a1, rfl, rfl, rfl, w1⟩ := open_string Try.underlying9 (hval 1 9 v1 rfl rfl) h1
  obtain ⟨a2, rfl, rfl, rfl, w2⟩ := open_string Try.underlying9 (hval 2 9 v2 rfl rfl) h2
  clear hA0 hval0
  have z1 : a1.size ≤ 140737488351232 := by
    have := sized_string hsz (j := 1) (t := 9) rfl rfl
    simp only [Array.length_toList, reachBytes] at this
    exact this
  have z2 : a2.size ≤ 140737488351232 := by
    have := sized_string hsz (j := 2) (t := 9) rfl rfl
    simp only [Array.length_toList, reachBytes] at this
    exact this
  refine (walk a0 a1 a2 W w0 z1 z2).mono fun e W' ⟨he, bel⟩ => ?_
  subst he
  exact ⟨_, rfl, _, _, _, [], _, [], hW', trodAll_mk1 (shut_bool Try.underlying4 _), (trodAll_cons_mk (shut_int Try.underlying5 w0) (trodAll_cons_mk (shut_string Try.underlying9 w1) (trodAll_cons_mk (shut_string Try.underlying9 w2) trodAll_mk0))), rfl, bel.frame _, fun h => by cases h⟩

theorem over : Rows.walFullRow.holds Try.pinned (OpenSpec.ofChange Rows.walFullSpec) :=
  OpenClaim.holds_of_wide 7 Try.f7 rfl rfl rfl rfl rfl rfl rfl ⟨rfl, rfl, rfl, rfl, rfl⟩ rfl rfl rfl rfl rfl (by kernel_rfl) Try.func7 (by kernel_rfl)
    (of_decide_eq_true (by kernel_rfl)) (by unfold Func.isWrapper; first | (rw [if_pos (by decide +kernel)]; kernel_rfl) | (rw [if_neg (by decide +kernel)]; exact ⟨rfl, rfl⟩))
    (fun os started H enc _ => lifted os started H enc)

theorem proved : Rows.WalFullSaid := over
end Go.Proofs.Ytgdaphckgckaaaa.walFull
