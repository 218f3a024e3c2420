/-
  Proved: for every two texts and every number of 16 bits the law WalFrames returns true and leaves its inputs as they were. No condition beyond the form's own reach (each text at most 2^47 - 4096 bytes).
-/
import Derived.Test.YtgdaphckgckaaaaWalE
import Derived.Test.YtgdaphckgckaaaaDiskZ
import Derived.WalkKit
import Derived.ProofKit
import Derived.OpenShut
import Derived.ShutString
import Derived.SizedLaws
import Derived.ChangeOld
import Derived.Below
import Derived.Carry
import Derived.Lib.SmallJoins
import Derived.Deep.SlicePairs
import Derived.SliceStrings
import Derived.RegionTactic
import Derived.Laws.Small
import Derived.Lib.Strings
namespace Go.Proofs.Ytgdaphckgckaaaa.walFrames
open Go.ChangeShapes Go.WideShapes Go.ChangeAt Go.RowKit Go.Joins Go.Deep
open Go.ChangeMaps (open_string shut_string)
set_option linter.unusedVariables false

theorem own : ownKnob Try.prog.godebug = none := by kernel_rfl
theorem laidOut : laidOutB Try.prog = true := by kernel_rfl

theorem one_of (c : UInt8) (X : ByteArray) (m : Nat) (hX : X.size = m) (h : m ≤ 99) : Wl.may ((⟨#[c]⟩ : ByteArray) ++ X) ∧ ((⟨#[c]⟩ : ByteArray) ++ X).size = m + 1 ∧ ((⟨#[c]⟩ : ByteArray) ++ X).data.toList = c :: X.data.toList := by
  have h1 : ((⟨#[c]⟩ : ByteArray) ++ X).size = m + 1 := by rw [ByteArray.size_append, hX]; show 1 + m = m + 1; omega
  refine ⟨?_, h1, by rw [Dk.data_append]; rfl⟩
  unfold Wl.may
  omega

set_option maxRecDepth 100000 in
set_option maxHeartbeats 4000000 in
theorem walk (a0 : ByteArray) (a1 : ByteArray) (a2 : Int) (w : World) (z0 : a0.size ≤ 140737488351232) (z1 : a1.size ≤ 140737488351232) (w2 : (Lit.int .u16 a2).wf = true) :
    Calls Try.prog 6 #[.string a0, .string a1, .int .u16 a2] w fun e w' => e = .returned (.bool true) ∧ Below w.heap.size w w' := by
  have hb2 : 0 ≤ a2 ∧ a2 ≤ 65535 := by simpa [Lit.wf, IntKind.min, IntKind.max, IntKind.signed, IntKind.bits] using w2
  obtain ⟨n, rfl⟩ := Int.eq_ofNat_of_zero_le hb2.1
  have hn : n ≤ 65535 := by omega
  clear w2 hb2
  obtain ⟨m, hmin, u0, v0, k0, e0⟩ := Dk.cut_min a0 99 99 rfl
  obtain ⟨m', hmin', u1, v1, k1, e1⟩ := Dk.cut_min a1 99 99 rfl
  obtain ⟨X, hX⟩ : ∃ X, a0.extract 0 m = X := ⟨_, rfl⟩
  obtain ⟨Y, hY⟩ : ∃ Y, a1.extract 0 m' = Y := ⟨_, rfl⟩
  rw [hX] at e0
  rw [hY] at e1
  obtain ⟨mA, sA, dA⟩ := one_of 97 X m e0 k0
  obtain ⟨mB, sB, dB⟩ := one_of 98 Y m' e1 k1
  have xX : (⟨#[97]⟩ : ByteArray).size + X.size ≤ 9223372036854775807 := by rw [← ByteArray.size_append]; omega
  have xY : (⟨#[98]⟩ : ByteArray).size + Y.size ≤ 9223372036854775807 := by rw [← ByteArray.size_append]; omega
  obtain ⟨A, hA⟩ : ∃ A, (⟨#[97]⟩ : ByteArray) ++ X = A := ⟨_, rfl⟩
  obtain ⟨B, hB⟩ : ∃ B, (⟨#[98]⟩ : ByteArray) ++ Y = B := ⟨_, rfl⟩
  rw [hA] at mA sA dA
  rw [hB] at mB sB dB
  have hne : Wl.frm A ≠ Wl.frm B := fun e => by
    have h := Wl.frm_inj mA mB e
    rw [h, dB] at dA
    simp at dA
  have fA := Wl.frame_yes A mA
  have fB := Wl.frame_yes B mB
  have zA := Wl.frm_size A
  have zB := Wl.frm_size B
  have lA : (Wl.frm A).data.toList = Wl.frl A := rfl
  have lB : (Wl.frm B).data.toList = Wl.frl B := rfl
  have hfr : Wl.frames [A, B, A] = Wl.frl A ++ (Wl.frl B ++ Wl.frl A) := by rw [Wl.frames, Wl.frames, Wl.frames_one]
  have hsa : Wl.scan (Wl.frames [A, B, A]) = [A, B, A] := Wl.scan_all _ (by intro r hr; simp at hr; rcases hr with rfl | rfl | rfl <;> assumption)
  obtain ⟨FA, hFA⟩ : ∃ FA, Wl.frm A = FA := ⟨_, rfl⟩
  obtain ⟨FB, hFB⟩ : ∃ FB, Wl.frm B = FB := ⟨_, rfl⟩
  rw [hFA] at fA zA lA hne
  rw [hFB] at fB zB lB hne
  obtain ⟨G, hG⟩ : ∃ G, FA ++ FB = G := ⟨_, rfl⟩
  obtain ⟨K, hK⟩ : ∃ K, G ++ FA = K := ⟨_, rfl⟩
  have zG : G.size = FA.size + FB.size := by rw [← hG, ByteArray.size_append]
  have zK : K.size = G.size + FA.size := by rw [← hK, ByteArray.size_append]
  have hK2 : Wl.scan K.data.toList = [A, B, A] := by rw [← hK, Dk.data_append, ← hG, Dk.data_append, lA, lB, List.append_assoc, ← hfr, hsa]
  have hn3 : (Wl.frames [A, B, A]).length = K.size := by rw [hfr, List.length_append, List.length_append, ← lA, ← lB, Wl.len_data, Wl.len_data]; omega
  have hneq : (FA.toList == FB.toList) = false := by
    rw [beq_eq_false_iff_ne]
    intro e
    rw [ByteArray.toList_eq, ByteArray.toList_eq] at e
    exact hne (ByteArray.ext (Array.ext' e))
  have x1 : FA.size + FB.size ≤ 9223372036854775807 := by omega
  have x2 : G.size + FA.size ≤ 9223372036854775807 := by omega
  have kz : K.size ≤ 1099511627776 := by omega
  have hq1 : ((FA.size : Int) == (A.size : Int) + 6) = true := by rw [beq_iff_eq]; omega
  have hq2 : ((K.size : Int) == 2 * (FA.size : Int) + (FB.size : Int)) = true := by rw [beq_iff_eq]; omega
  have HFA := Lib.hid fA
  have HFB := Lib.hid fB
  have HK := Lib.hid hK2
  have HN := Lib.hid hn3
  have xA : A.size ≤ 100 := by omega
  have xB : B.size ≤ 100 := by omega
  have yA : FA.size ≤ 106 := by omega
  have yB : FB.size ≤ 106 := by omega
  clear fA fB hK2 hn3 hne hfr hsa lA lB dA dB mA mB hFA hFB e0 e1 sA sB zA zB zG zK
  obtain ⟨H, ok, hH⟩ : ∃ H ok, Wl.frame (Dk.zeroText n) = (H, ok) := ⟨_, _, rfl⟩
  have hz := Dk.zeroText_size n
  have hmk := Dk.make_zeros n (by omega)
  have hcv := Dk.conv_zeros n
  have hways : (n = 0 ∧ ok = false ∧ H = ⟨#[]⟩) ∨ (1 ≤ n ∧ (n : Int) ≤ 8192 ∧ ok = true) ∨ (1 ≤ n ∧ ¬ (n : Int) ≤ 8192 ∧ ok = false ∧ H = ⟨#[]⟩) := by
    by_cases hm : Wl.may (Dk.zeroText n)
    · rw [Wl.frame_yes _ hm] at hH
      obtain ⟨_, rfl⟩ : _ ∧ true = ok := by simpa using hH
      unfold Wl.may at hm
      rw [hz] at hm
      exact .inr (.inl ⟨hm.1, by omega, rfl⟩)
    · rw [Wl.frame_no _ hm] at hH
      obtain ⟨rfl, rfl⟩ : (⟨#[]⟩ : ByteArray) = H ∧ false = ok := by simpa using hH
      unfold Wl.may at hm
      rw [hz] at hm
      by_cases h0 : n = 0
      · exact .inl ⟨h0, rfl, rfl⟩
      · exact .inr (.inr ⟨by omega, by omega, rfl, rfl⟩)
  have HH := Lib.hid hH
  clear hH
  generalize Dk.zeroText n = Z at *
  generalize Dk.zeros n = M at *
  go_enter Try.func6, Try.ntmps6
  go_wp2_with fail
  refine (Wl.examples_any _).mono ?_
  rintro e x1 ⟨rfl, b1⟩
  go_wp2_with fail
  refine (Wl.frame_any _ _ _ HFA.out (by unfold maxLen; omega) _).mono ?_
  rintro e x2 ⟨rfl, hb⟩
  have b2 := Dk.behind b1 hb
  clear b1 hb
  go_wp2_with fail
  refine (Wl.frame_any _ _ _ HFB.out (by unfold maxLen; omega) _).mono ?_
  rintro e x3 ⟨rfl, hb⟩
  have b3 := Dk.behind b2 hb
  clear b2 hb
  go_wp2_with fail
  have b4 := b3.alloc b3.size (.cells M 5)
  refine (Wl.frame_any Z H ok HH.out (by unfold maxLen; omega) _).mono ?_
  rintro e x4 ⟨rfl, hb⟩
  have b5 := b4.trans (hb.mono b4.size)
  clear b3 b4 hb hcv hmk
  go_wp2_with fail
  refine (Wl.scan_any K _ HK.out kz _).mono ?_
  rintro e x5 ⟨v, rfl, hown, hb⟩
  rw [HN.out]
  have b6 := b5.trans (hb.mono b5.size)
  clear b5 hb
  rcases hown.2 with ⟨_, h0⟩ | ⟨g, cap, cur, rfl, hgb, hg, hcap, hcm, _⟩
  · simp at h0
  · have hl : (3 : Nat) ≤ 9223372036854775807 := by omega
    have hc := hown.cells (g := g) rfl
    have c0 : x5.cell? ⟨g, 0, none⟩ = some (.string A) := hc 0 _ rfl
    have c1 : x5.cell? ⟨g, 1, none⟩ = some (.string B) := hc 1 _ rfl
    have c2 : x5.cell? ⟨g, 2, none⟩ = some (.string A) := hc 2 _ rfl
    unfold maxLen at hcm
    clear hc hown hg
    have h4 : ¬ (n : Int) ≤ 8192 → decide ((n : Int) ≤ 8192) = false := decide_eq_false
    rcases hways with ⟨rfl, rfl, rfl⟩ | ⟨h1, h2, rfl⟩ | ⟨h1, h2, rfl, rfl⟩
    case' inr.inr => have h5 := h4 (by omega)
    all_goals
      clear h4
      go_wp2
      go_ret
      exact ⟨rfl, b6⟩

set_option maxRecDepth 100000 in
theorem lifted (os : Os) (started : os.Started) (H : Type) (enc : TypeId × Value → H) :
    ReturnsInHanded {} Try.checked os 6 .any (Rows.walFramesSpec.pre6 enc Try.prog Try.f6 Rows.walFramesRow.domain false) (Rows.walFramesSpec.post enc Try.prog Try.f6 false true false false) := by
  refine returnsInHanded_of_change_sized (C := Try.checked) own started (by kernel_rfl) Try.func6
    (ChangeSpec.witness6 (enc := enc) (C := Try.checked) false ⟨#[], #[.string ByteArray.empty, .string ByteArray.empty, .int .u16 0], []⟩ 8 (by kernel_rfl) (by kernel_rfl) (by kernel_rfl) (by kernel_rfl)) ?_
  intro W base args ds gs before hval0 hW hcnd hsz0 _
  have hval : ∀ (j : Nat) t v, Try.f6.params[j]? = some t → args[j]? = some v → Value.okWide Try.prog W .any base t v := hval0
  have hsz : (DataW.weightsEach Try.prog (Try.f6.params.toList ++ Rows.walFramesSpec.plain.varTypes Try.prog) (ds ++ gs)).all (· ≤ reachBytes) = true := hsz0
  have hW' := hW
  obtain ⟨p, q, hA0, hV, rfl, hfz, hnd⟩ := hW
  have hA : DataW.TrodAll enc Try.prog W 0 (fun _ => true) true Try.f6.params.toList args.toList ds p := hA0
  rw [Try.params6] at hA hval hsz
  obtain ⟨v0, vs0, d0, ds0, p0, q0, hargs, rfl, rfl, h0, r0⟩ := trodAll_cons hA
  obtain ⟨v1, vs1, d1, ds1, p1, q1, rfl, rfl, rfl, h1, r1⟩ := trodAll_cons r0
  obtain ⟨v2, vs2, d2, ds2, p2, q2, rfl, rfl, rfl, h2, r2⟩ := trodAll_cons r1
  obtain ⟨rfl, rfl, rfl⟩ := trodAll_nil r2
  obtain rfl : args = #[v0, v1, v2] := by cases args; simp_all
  obtain ⟨rfl, rfl⟩ := trodVars_none hV
  obtain ⟨a0, rfl, rfl, rfl, w0⟩ := open_string Try.underlying9 (hval 0 9 v0 rfl rfl) h0
  obtain ⟨a1, rfl, rfl, rfl, w1⟩ := open_string Try.underlying9 (hval 1 9 v1 rfl rfl) h1
  obtain ⟨a2, rfl, rfl, rfl, w2⟩ := open_int Try.underlying32 (hval 2 32 v2 rfl rfl) h2
  clear hA0 hval0
  have z0 : a0.size ≤ 140737488351232 := by
    have := sized_string hsz (j := 0) (t := 9) rfl rfl
    simp only [Array.length_toList, reachBytes] at this
    exact this
  have z1 : a1.size ≤ 140737488351232 := by
    have := sized_string hsz (j := 1) (t := 9) rfl rfl
    simp only [Array.length_toList, reachBytes] at this
    exact this
  refine (walk a0 a1 a2 W z0 z1 w2).mono fun e W' ⟨he, bel⟩ => ?_
  subst he
  exact ⟨_, rfl, _, _, _, [], _, [], hW', trodAll_mk1 (shut_bool Try.underlying4 _), (trodAll_cons_mk (shut_string Try.underlying9 w0) (trodAll_cons_mk (shut_string Try.underlying9 w1) (trodAll_cons_mk (shut_int Try.underlying32 w2) trodAll_mk0))), rfl, bel.frame _, fun h => by cases h⟩

theorem over : Rows.walFramesRow.holds Try.pinned (OpenSpec.ofChange Rows.walFramesSpec) :=
  OpenClaim.holds_of_wide 6 Try.f6 rfl rfl rfl rfl rfl rfl rfl ⟨rfl, rfl, rfl, rfl, rfl⟩ rfl rfl rfl rfl rfl (by kernel_rfl) Try.func6 (by kernel_rfl)
    (of_decide_eq_true (by kernel_rfl)) (by unfold Func.isWrapper; first | (rw [if_pos (by decide +kernel)]; kernel_rfl) | (rw [if_neg (by decide +kernel)]; exact ⟨rfl, rfl⟩))
    (fun os started H enc _ => lifted os started H enc)

theorem proved : Rows.WalFramesSaid := over
end Go.Proofs.Ytgdaphckgckaaaa.walFrames
