/-
  Proved: for every list of texts, every text, every two numbers of 8 bits and every whole number the law WalScans returns true and leaves its inputs as they were, where all that came in is of bulk at most 1048576 (the statement's second form: uptoSmall). No other condition.
-/
import Derived.Test.YtgdaphckgckaaaaWalQ
import Derived.Test.YtgdaphckgckaaaaDiskT
import Derived.Deep.CondSized
import Derived.WalkKit
import Derived.ProofKit
import Derived.OpenShut
import Derived.ShutString
import Derived.SizedLaws
import Derived.ChangeOld
import Derived.Below
import Derived.Carry
import Derived.Lib.SmallJoins
import Derived.Deep.SlicePairs
import Derived.SliceStrings
import Derived.RegionTactic
import Derived.Laws.Small
import Derived.Lib.Strings
import Derived.Deep.CutBlock
import Derived.Deep.DeepCutAuto
namespace Go.Proofs.Ytgdaphckgckaaaa.walScans
open Go.ChangeShapes Go.WideShapes Go.ChangeAt Go.RowKit Go.Joins Go.Deep
open Go.ChangeMaps (open_string shut_string)
set_option linter.unusedVariables false

theorem own : ownKnob Try.prog.godebug = none := by kernel_rfl
theorem laidOut : laidOutB Try.prog = true := by kernel_rfl

set_option maxRecDepth 100000 in
set_option maxHeartbeats 4000000 in
theorem walk (a0 : Option Addr) (len0 cap0 : Nat) (a1 : ByteArray) (a2 : Int) (a3 : Int) (a4 : Int) (w : World) (w0 : ∀ i, i < len0 → ∃ (x : Addr) (e0 : ByteArray), a0 = some x ∧ x.block < w.heap.size ∧ w.cell? (x.add i) = some (.string e0) ∧ e0.size ≤ maxLen) (l0 : len0 ≤ cap0) (m0 : cap0 ≤ maxLen) (z1 : a1.size ≤ 1048576) (w2 : (Lit.int .u8 a2).wf = true) (w3 : (Lit.int .i64 a3).wf = true) (w4 : (Lit.int .u8 a4).wf = true) :
    Calls Try.prog 3 #[.slice a0 len0 cap0, .string a1, .int .u8 a2, .int .i64 a3, .int .u8 a4] w fun e w' => e = .returned (.bool true) ∧ Below w.heap.size w w' := by
  have hb2 : 0 ≤ a2 ∧ a2 ≤ 255 := by simpa [Lit.wf, IntKind.min, IntKind.max, IntKind.signed, IntKind.bits] using w2
  have hb3 : -9223372036854775808 ≤ a3 ∧ a3 ≤ 9223372036854775807 := by simpa [Lit.wf, IntKind.min, IntKind.max, IntKind.signed, IntKind.bits] using w3
  have hb4 : 0 ≤ a4 ∧ a4 ≤ 255 := by simpa [Lit.wf, IntKind.min, IntKind.max, IntKind.signed, IntKind.bits] using w4
  obtain ⟨n2, rfl⟩ := Int.eq_ofNat_of_zero_le hb2.1
  obtain ⟨n4, rfl⟩ := Int.eq_ofNat_of_zero_le hb4.1
  have hn2 : n2 < 256 := by omega
  have hn4 : n4 < 256 := by omega
  unfold maxLen at m0
  have hlen : len0 ≤ 9223372036854775807 := by omega
  have W0 := Lib.hid w0
  have H3 := Lib.hid hb3
  clear w0 w2 w3 w4 hb2 hb4 hb3
  go_enter Try.func3, Try.ntmps3
  go_wp2_with fail
  refine (Wl.examples_any _).mono ?_
  rintro e x1 ⟨rfl, b1⟩
  go_wp2_with fail
  go_loopw [12, 13] (fun al i W => ∃ (k : Nat) (A : ByteArray), k ≤ len0 ∧ k ≤ 8 ∧ i = .int .i64 k ∧ al = .string A ∧ A.size ≤ 8198 * k ∧ Below w.heap.size w W) (fun _ i _ => len0 - (intOf i).toNat)
  case atStart => exact ⟨0, ⟨#[]⟩, Nat.zero_le _, Nat.zero_le _, rfl, rfl, Nat.le_refl _, b1⟩
  case round =>
    clear b1
    obtain ⟨k, A, hk, hk8, rfl, rfl, hA, b1⟩ := hrel
    by_cases hlt : k < len0 ∧ k < 8
    · obtain ⟨hlt, h8⟩ := hlt
      obtain ⟨x, r, rfl, hxb, hc0, hs0⟩ := W0.out k hlt
      have hc0' := (b1.cell (p := x.add k) (by rw [Dk.block_add]; exact hxb)).trans hc0
      have hkk : (0 : Int) ≤ (k : Int) := by omega
      have hkl : (k : Int) < (len0 : Int) := by omega
      have hk8' : (k : Int) < 8 := by omega
      obtain ⟨f, ok, hf⟩ : ∃ f ok, Wl.frame r = (f, ok) := ⟨_, _, rfl⟩
      have hfs : f.size ≤ 8198 := by
        by_cases hm : Wl.may r
        · rw [Wl.frame_yes r hm] at hf
          obtain ⟨rfl, _⟩ : Wl.frm r = f ∧ _ := by simpa using hf
          have := hm.2
          rw [Wl.frm_size]; omega
        · rw [Wl.frame_no r hm] at hf
          obtain ⟨rfl, _⟩ : (⟨#[]⟩ : ByteArray) = f ∧ _ := by simpa using hf
          exact Nat.zero_le _
      have HF := Lib.hid hf
      have HS := Lib.hid hs0
      have hAf : A.size + f.size ≤ 9223372036854775807 := by omega
      obtain ⟨A2, hA2⟩ : ∃ A2, A ++ f = A2 := ⟨_, rfl⟩
      have hA2s : A2.size ≤ 8198 * (k + 1) := by rw [← hA2, ByteArray.size_append]; omega
      clear hc0 hf hs0
      go_wp2_with fail
      refine (Wl.frame_any r f ok HF.out HS.out _).mono ?_
      rintro e x2 ⟨rfl, hb⟩
      have hc1 := (hb.cell (p := x.add k) (by rw [Dk.block_add]; exact Nat.lt_of_lt_of_le hxb b1.size)).trans hc0'
      have b2 := Dk.behind b1 hb
      clear hc0' b1 hb
      go_wp2_with fail
      refine (Wl.refframe_any r f ok HF.out HS.out _).mono ?_
      rintro e x3 ⟨rfl, hb⟩
      have b3 := Dk.behind b2 hb
      clear hc1 b2 hb
      cases ok
      all_goals
        go_wp2
        exact ⟨⟨k + 1, A2, by omega, by omega, by go_num, rfl, hA2s, b3⟩, by simp [intOf]; omega⟩
    · have hA2 : A.size ≤ 65584 := by omega
      have hz : k < len0 ∧ ¬ k < 8 ∨ ¬ k < len0 := by omega
      clear hlt hk hA
      obtain ⟨q, hq1, hq2⟩ := Wl.turn_at a3 A.size (by omega)
      have hq3 : (0 : Int) ≤ (q : Int) := by omega
      have hq4 : (q : Int) ≤ (A.size : Int) := by omega
      obtain ⟨Q, hQ⟩ : ∃ Q, A.extract 0 q = Q := ⟨_, rfl⟩
      have hQs : Q.size ≤ 65584 := by rw [← hQ, ByteArray.size_extract]; omega
      obtain ⟨J, hJ⟩ : ∃ J, A ++ a1 = J := ⟨_, rfl⟩
      have hJs : J.size ≤ 1114160 := by rw [← hJ, ByteArray.size_append]; omega
      have hJ2 : A.size + a1.size ≤ 9223372036854775807 := by omega
      have hA0 : ¬ ((A.size : Int) + 1 = 0) := by omega
      rcases hz with ⟨hz1, hz2⟩ | hz1
      all_goals
        rcases (show n2 % 4 = 0 ∨ n2 % 4 = 1 ∨ n2 % 4 = 2 ∨ n2 % 4 = 3 by omega) with hr | hr | hr | hr
        · have hr' : (n2 : Int) % 4 = 0 := by omega
          clear hr hq1 hq3 hq4
          obtain ⟨rs, hrs⟩ : ∃ rs, Wl.scan J.data.toList = rs := ⟨_, rfl⟩
          have hrl : rs.length ≤ 1099511627776 := by
            have h1 := Wl.scan_le J.data.toList
            rw [hrs, Wl.len_data] at h1
            have h2 := Wl.frames_length rs
            omega
          have HR := Lib.hid hrs
          clear hrs
          go_wp2_with fail
          refine (Wl.scan_any J rs HR.out (by omega) _).mono ?_
          rintro e y1 ⟨u1, rfl, hown, hb⟩
          obtain ⟨ao, cap, rfl⟩ := Dk.own_form hown
          have c1 := Dk.behind b1 hb
          clear hb
          go_wp2_with fail
          refine (Wl.refscan_any J rs HR.out (by omega) _).mono ?_
          rintro e y2 ⟨u2, rfl, hown', hb⟩
          obtain ⟨ao', cap', rfl⟩ := Dk.own_form hown'
          have hown2 := Wl.row_below hown hb
          have c2 := Dk.behind c1 hb
          clear hb hown c1
          go_wp2_with fail
          refine (Wl.same_any hown2 hown' hrl).mono ?_
          rintro e y3 ⟨rfl, hb⟩
          have c3 := Dk.behind c2 hb
          clear hb hown2 hown' c2
          go_wp2
          go_ret
          exact ⟨rfl, c3⟩
        · have hr' : (n2 : Int) % 4 = 1 := by omega
          clear hr hq1 hq3 hq4
          go_wp2_with fail
          refine (Wl.bend_any A a3 n4 (by omega) H3.out (by omega) _).mono ?_
          rintro e y0 ⟨y, rfl, hys, hb⟩
          have c0 := Dk.behind b1 hb
          have hys2 : y.size ≤ 65584 := by omega
          clear hb hys
          obtain ⟨rs, hrs⟩ : ∃ rs, Wl.scan y.data.toList = rs := ⟨_, rfl⟩
          have hrl : rs.length ≤ 1099511627776 := by
            have h1 := Wl.scan_le y.data.toList
            rw [hrs, Wl.len_data] at h1
            have h2 := Wl.frames_length rs
            omega
          have HR := Lib.hid hrs
          clear hrs
          go_wp2_with fail
          refine (Wl.scan_any y rs HR.out (by omega) _).mono ?_
          rintro e y1 ⟨u1, rfl, hown, hb⟩
          obtain ⟨ao, cap, rfl⟩ := Dk.own_form hown
          have c1 := Dk.behind c0 hb
          clear hb
          go_wp2_with fail
          refine (Wl.refscan_any y rs HR.out (by omega) _).mono ?_
          rintro e y2 ⟨u2, rfl, hown', hb⟩
          obtain ⟨ao', cap', rfl⟩ := Dk.own_form hown'
          have hown2 := Wl.row_below hown hb
          have c2 := Dk.behind c1 hb
          clear hb hown c1
          go_wp2_with fail
          refine (Wl.same_any hown2 hown' hrl).mono ?_
          rintro e y3 ⟨rfl, hb⟩
          have c3 := Dk.behind c2 hb
          clear hb hown2 hown' c2
          go_wp2
          go_ret
          exact ⟨rfl, c3⟩
        · have hr' : (n2 : Int) % 4 = 2 := by omega
          clear hr
          go_wp2_with fail
          obtain ⟨rs, hrs⟩ : ∃ rs, Wl.scan Q.data.toList = rs := ⟨_, rfl⟩
          have hrl : rs.length ≤ 1099511627776 := by
            have h1 := Wl.scan_le Q.data.toList
            rw [hrs, Wl.len_data] at h1
            have h2 := Wl.frames_length rs
            omega
          have HR := Lib.hid hrs
          clear hrs
          go_wp2_with fail
          refine (Wl.scan_any Q rs HR.out (by omega) _).mono ?_
          rintro e y1 ⟨u1, rfl, hown, hb⟩
          obtain ⟨ao, cap, rfl⟩ := Dk.own_form hown
          have c1 := Dk.behind b1 hb
          clear hb
          go_wp2_with fail
          refine (Wl.refscan_any Q rs HR.out (by omega) _).mono ?_
          rintro e y2 ⟨u2, rfl, hown', hb⟩
          obtain ⟨ao', cap', rfl⟩ := Dk.own_form hown'
          have hown2 := Wl.row_below hown hb
          have c2 := Dk.behind c1 hb
          clear hb hown c1
          go_wp2_with fail
          refine (Wl.same_any hown2 hown' hrl).mono ?_
          rintro e y3 ⟨rfl, hb⟩
          have c3 := Dk.behind c2 hb
          clear hb hown2 hown' c2
          go_wp2
          go_ret
          exact ⟨rfl, c3⟩
        · have hr' : (n2 : Int) % 4 = 3 := by omega
          clear hr hq1 hq3 hq4
          obtain ⟨rs, hrs⟩ : ∃ rs, Wl.scan a1.data.toList = rs := ⟨_, rfl⟩
          have hrl : rs.length ≤ 1099511627776 := by
            have h1 := Wl.scan_le a1.data.toList
            rw [hrs, Wl.len_data] at h1
            have h2 := Wl.frames_length rs
            omega
          have HR := Lib.hid hrs
          clear hrs
          go_wp2_with fail
          refine (Wl.scan_any a1 rs HR.out (by omega) _).mono ?_
          rintro e y1 ⟨u1, rfl, hown, hb⟩
          obtain ⟨ao, cap, rfl⟩ := Dk.own_form hown
          have c1 := Dk.behind b1 hb
          clear hb
          go_wp2_with fail
          refine (Wl.refscan_any a1 rs HR.out (by omega) _).mono ?_
          rintro e y2 ⟨u2, rfl, hown', hb⟩
          obtain ⟨ao', cap', rfl⟩ := Dk.own_form hown'
          have hown2 := Wl.row_below hown hb
          have c2 := Dk.behind c1 hb
          clear hb hown c1
          go_wp2_with fail
          refine (Wl.same_any hown2 hown' hrl).mono ?_
          rintro e y3 ⟨rfl, hb⟩
          have c3 := Dk.behind c2 hb
          clear hb hown2 hown' c2
          go_wp2
          go_ret
          exact ⟨rfl, c3⟩

set_option maxRecDepth 100000 in
theorem lifted (os : Os) (started : os.Started) (H : Type) (enc : TypeId × Value → H) (F : Stop.Interp) :
    ReturnsInHanded {} Try.checked os 3 .any ((Rows.OpenSpec.upto Rows.walScansSpec).pre6 enc Try.prog Try.f3 Rows.walScansUptoRow.domain false) (((Rows.OpenSpec.upto Rows.walScansSpec).at F).post enc Try.prog Try.f3 false true false false) := by
  refine returnsInHanded_of_cond_sized (C := Try.checked) (s := Rows.OpenSpec.upto Rows.walScansSpec) (k := Rows.uptoSmall) rfl own started (by kernel_rfl) Try.func3
    (OpenSpec.witness (enc := enc) (C := Try.checked) (s := Rows.OpenSpec.upto Rows.walScansSpec) (k := Rows.uptoSmall) rfl false ⟨#[], #[.slice none 0 0, .string ByteArray.empty, .int .u8 0, .int .i64 0, .int .u8 0], []⟩ 8 (by kernel_rfl) (by kernel_rfl) (by kernel_rfl)
      (x := ([.nil, .lit (.string []), .lit (.int .u8 0), .lit (.int .i64 0), .lit (.int .u8 0)], [], [])) (by kernel_rfl) rfl (by kernel_rfl)) ?_
  intro W base args ds gs before hval0 hW hcnd hk hsz0 _
  have hval : ∀ (j : Nat) t v, Try.f3.params[j]? = some t → args[j]? = some v → Value.okWide Try.prog W .any base t v := hval0
  have hsz : (DataW.weightsEach Try.prog (Try.f3.params.toList ++ Rows.walScansSpec.plain.varTypes Try.prog) (ds ++ gs)).all (· ≤ reachBytes) = true := hsz0
  have hW' := hW
  obtain ⟨p, q, hA0, hV, rfl, hfz, hnd⟩ := hW
  have hA : DataW.TrodAll enc Try.prog W 0 (fun _ => true) true Try.f3.params.toList args.toList ds p := hA0
  rw [Try.params3] at hA hval hsz
  obtain ⟨v0, vs0, d0, ds0, p0, q0, hargs, rfl, rfl, h0, r0⟩ := trodAll_cons hA
  obtain ⟨v1, vs1, d1, ds1, p1, q1, rfl, rfl, rfl, h1, r1⟩ := trodAll_cons r0
  obtain ⟨v2, vs2, d2, ds2, p2, q2, rfl, rfl, rfl, h2, r2⟩ := trodAll_cons r1
  obtain ⟨v3, vs3, d3, ds3, p3, q3, rfl, rfl, rfl, h3, r3⟩ := trodAll_cons r2
  obtain ⟨v4, vs4, d4, ds4, p4, q4, rfl, rfl, rfl, h4, r4⟩ := trodAll_cons r3
  obtain ⟨rfl, rfl, rfl⟩ := trodAll_nil r4
  obtain rfl : args = #[v0, v1, v2, v3, v4] := by cases args; simp_all
  obtain ⟨rfl, rfl⟩ := trodVars_none hV
  have k0 := h0
  have lt0 : ∀ x ∈ p0, x.block < W.heap.size := by obtain ⟨m, hm⟩ := k0; exact DataW.trod_lt m _ _ _ hm
  obtain ⟨a0, len0, cap0, rfl⟩ := okWide_slice Try.underlying22 (hval 0 22 v0 rfl rfl)
  obtain ⟨a1, rfl, rfl, rfl, w1⟩ := open_string Try.underlying9 (hval 1 9 v1 rfl rfl) h1
  obtain ⟨a2, rfl, rfl, rfl, w2⟩ := open_int Try.underlying5 (hval 2 5 v2 rfl rfl) h2
  obtain ⟨a3, rfl, rfl, rfl, w3⟩ := open_int Try.underlying3 (hval 3 3 v3 rfl rfl) h3
  obtain ⟨a4, rfl, rfl, rfl, w4⟩ := open_int Try.underlying5 (hval 4 5 v4 rfl rfl) h4
  clear hA0 hval0
  have b0 : (∀ i, i < len0 → ∃ (x : Addr) (e0 : ByteArray), a0 = some x ∧ x.block < W.heap.size ∧ W.cell? (x.add i) = some (.string e0) ∧ e0.size ≤ maxLen) ∧ len0 ≤ cap0 ∧ cap0 ≤ maxLen := by
    obtain ⟨fuel, hf⟩ := h0
    rcases open_strings Try.underlying22 Try.underlying9 (by kernel_rfl) hf with ⟨hcs, _⟩ | ⟨x, l, c, ss, hcs, _, hl, hm, hsl, _, hel, hmax⟩
    · simp [Value.cells] at hcs
      obtain ⟨rfl, rfl, rfl⟩ := hcs
      exact ⟨fun i hi => absurd hi (by omega), Nat.le_refl _, Nat.zero_le _⟩
    · simp [Value.cells] at hcs
      obtain ⟨rfl, rfl, rfl⟩ := hcs
      refine ⟨fun i hi => ?_, hl, hm⟩
      have hi' : i < ss.length := by rw [hsl]; split <;> omega
      have c0 := hel i hi'
      have hb := World.block_lt_of_cell? _ _ c0
      rw [Dk.block_add] at hb
      exact ⟨x, _, rfl, hb, c0, hmax _ (by rw [List.getD_eq_getElem?_getD, List.getElem?_eq_getElem hi']; exact List.getElem_mem hi')⟩
  obtain ⟨w0, l0, m0⟩ := b0
  have z1 : a1.size ≤ 1048576 := by
    have h := of_decide_eq_true hk
    simp only [List.cons_append, List.nil_append, Rows.uptoBulkAll, Rows.uptoBulk, Array.length_toList] at h
    have e : a1.size = a1.data.size := rfl
    omega
  refine (walk a0 len0 cap0 a1 a2 a3 a4 W w0 l0 m0 z1 w2 w3 w4).mono fun e W' ⟨he, bel⟩ => ?_
  subst he
  exact ⟨_, rfl, _, _, _, [], _, [], hW', trodAll_mk1 (shut_bool Try.underlying4 _), (trodAll_cons_mk (Below.trod laidOut (by kernel_rfl) (of_decide_eq_true (by kernel_rfl)) k0 bel lt0) (trodAll_cons_mk (shut_string Try.underlying9 w1) (trodAll_cons_mk (shut_int Try.underlying5 w2) (trodAll_cons_mk (shut_int Try.underlying3 w3) (trodAll_cons_mk (shut_int Try.underlying5 w4) trodAll_mk0))))), rfl, bel.frame _, fun h => by cases h⟩

theorem over : Rows.walScansUptoRow.holds Try.pinned (Rows.OpenSpec.upto Rows.walScansSpec) :=
  OpenClaim.holds_of_cond 3 Try.f3 rfl rfl rfl rfl rfl rfl rfl ⟨rfl, rfl, rfl, rfl, rfl⟩ rfl rfl rfl rfl rfl (by kernel_rfl) Try.func3 (by kernel_rfl)
    (of_decide_eq_true (by kernel_rfl)) (by unfold Func.isWrapper; first | (rw [if_pos (by decide +kernel)]; kernel_rfl) | (rw [if_neg (by decide +kernel)]; exact ⟨rfl, rfl⟩))
    (fun os started H enc _ F => lifted os started H enc F)

theorem proved : Rows.WalScansUptoSaid := over
end Go.Proofs.Ytgdaphckgckaaaa.walScans
