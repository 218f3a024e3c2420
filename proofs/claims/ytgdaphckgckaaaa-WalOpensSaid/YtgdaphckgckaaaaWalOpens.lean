/-
  Proved: for every two texts the law WalOpens returns true and leaves its inputs as they were. No condition beyond the form's own reach (each text at most 2^47 - 4096 bytes).
-/
import Derived.Test.YtgdaphckgckaaaaWalP
import Derived.WalkKit
import Derived.ProofKit
import Derived.OpenShut
import Derived.ShutString
import Derived.SizedLaws
import Derived.ChangeOld
import Derived.Below
import Derived.Carry
import Derived.Lib.SmallJoins
import Derived.Deep.SlicePairs
import Derived.SliceStrings
import Derived.RegionTactic
import Derived.Laws.Small
import Derived.Lib.Strings
namespace Go.Proofs.Ytgdaphckgckaaaa.walOpens
open Go.ChangeShapes Go.WideShapes Go.ChangeAt Go.RowKit Go.Joins Go.Deep
open Go.ChangeMaps (open_string shut_string)
set_option linter.unusedVariables false

theorem own : ownKnob Try.prog.godebug = none := by kernel_rfl
theorem laidOut : laidOutB Try.prog = true := by kernel_rfl

set_option maxRecDepth 100000 in
set_option maxHeartbeats 4000000 in
theorem walk (a0 : ByteArray) (a1 : ByteArray) (w : World) (z0 : a0.size ≤ 140737488351232) (z1 : a1.size ≤ 140737488351232) :
    Calls Try.prog 8 #[.string a0, .string a1] w fun e w' => e = .returned (.bool true) ∧ Below w.heap.size w w' := by
  obtain ⟨m, hmin, u0, v0, k0, e0⟩ := Dk.cut_min a0 1000 1000 rfl
  obtain ⟨m', hmin', u1, v1, k1, e1⟩ := Dk.cut_min a1 100 100 rfl
  obtain ⟨S, hS⟩ : ∃ S, a0.extract 0 m = S := ⟨_, rfl⟩
  obtain ⟨Y, hY⟩ : ∃ Y, a1.extract 0 m' = Y := ⟨_, rfl⟩
  rw [hS] at e0
  rw [hY] at e1
  obtain ⟨mR, sR, -⟩ := Wl.one_of 114 Y m' e1 (by omega)
  have xY : (⟨#[114]⟩ : ByteArray).size + Y.size ≤ 9223372036854775807 := by rw [← ByteArray.size_append]; omega
  obtain ⟨R, hR⟩ : ∃ R, (⟨#[114]⟩ : ByteArray) ++ Y = R := ⟨_, rfl⟩
  rw [hR] at mR sR
  obtain ⟨rs, hrs⟩ : ∃ rs, Wl.scan S.data.toList = rs := ⟨_, rfl⟩
  have hmay := Wl.scan_may S.data.toList
  have hfl := Wl.scan_le S.data.toList
  rw [hrs] at hmay hfl
  rw [Wl.len_data] at hfl
  have h7 := Wl.frames_length7 rs hmay
  have hall : Wl.scan (Wl.frames rs ++ Wl.frl R) = rs ++ [R] := by
    rw [Wl.scan_frames rs _ hmay]
    have := Wl.scan_all [R] (by intro r hr; simp at hr; subst hr; exact mR)
    rw [Wl.frames_one] at this
    rw [this]
  have hsn := Wl.frames_snoc rs R
  have hrl := Wl.frl_length R
  have hlen : (rs ++ [R]).length = rs.length + 1 := by rw [List.length_append, List.length_singleton]
  have hpre : rs <+: rs ++ [R] := List.prefix_append _ _
  have hlast : (rs ++ [R])[rs.length]? = some R := by simp
  obtain ⟨rs', hrs'⟩ : ∃ rs', rs ++ [R] = rs' := ⟨_, rfl⟩
  rw [hrs'] at hall hsn hlen hpre hlast
  have HA := Lib.hid hall
  have HRS := Lib.hid hrs
  have HRS' := Lib.hid hrs'
  have HM := Lib.hid hmay
  have HSN := Lib.hid hsn
  have HRL := Lib.hid hrl
  have HL := Lib.hid hlen
  have HP := Lib.hid hpre
  have HLA := Lib.hid hlast
  have MR := Lib.hid mR
  have zR : R.size ≤ 101 := by omega
  have zS : S.size ≤ 1000 := by omega
  have zr : rs.length ≤ 1000 := by omega
  have zf : (Wl.frames rs).length ≤ 1000 := by omega
  clear hall hrs hrs' hmay hsn hrl hlen hpre hlast mR sR e0 e1 hfl h7
  go_enter Try.func8, Try.ntmps8
  go_wp2_with fail
  refine (Wl.examples_any _).mono ?_
  rintro e x1 ⟨rfl, b1⟩
  have hs := b1.size
  go_wp2_with fail
  refine (Dk.new_yes 1048576 (by omega) (by omega) _).mono ?_
  rintro e x2 ⟨rfl, hD, hb⟩
  have b2 := Dk.behind b1 hb
  obtain ⟨g, hg⟩ : ∃ g, x1.heap.size = g := ⟨_, rfl⟩
  rw [hg] at hD hs
  rw [hg]
  clear hb b1 hg
  go_wp2_with fail
  refine (Dk.append_fits hD S (by rw [List.length_nil]; omega)).mono ?_
  rintro e x3 ⟨rfl, hD3, hF3⟩
  rw [List.nil_append] at hD3
  have b3 := b2.trans (hF3.below.mono hs)
  clear hD b2 hF3
  go_wp2_with fail
  refine (Wl.open_any hD3 rs HRS.out).mono ?_
  rintro e x4 ⟨a, v, rfl, hD4, hL4, hF4⟩
  have hL := hL4.mono hD3.heap
  have b4 := b3.trans (hF4.below.mono hs)
  clear hD3 b3 hF4 hL4
  go_wp2_with fail
  refine (Wl.records_any hL (by omega)).mono ?_
  rintro e x5 ⟨u5, rfl, hown, hb⟩
  obtain ⟨ao, cap, rfl⟩ := Dk.own_form hown
  have hown5 := Wl.row_mono hown (Nat.le_trans hs hD4.heap)
  have hlt5 := hown.lt
  have hD5 := hD4.below hb
  have hL5 := hL.below hb
  have b5 := Dk.behind b4 hb
  have hne5 : ∀ k, v.ownBlock = some k → (Value.slice ao rs.length cap).ownBlock ≠ some k := fun k hk e => by
    have h1 := (hlt5 k e).1
    have h2 := (hL.row.lt k hk).2
    omega
  clear hD4 hL b4 hb hown
  go_wp2_with fail
  refine (Wl.putfits_any hD5 hL5 R MR.out (by omega) (by omega) (Nat.le_refl _)).mono ?_
  rintro e x6 ⟨v6, rfl, hD6, hL6, hF6, hv6⟩
  have hne6 : ∀ k, v6.ownBlock = some k → (Value.slice ao rs.length cap).ownBlock ≠ some k := fun k hk e => by
    rcases hv6 k hk with h1 | h1
    · exact hne5 k h1 e
    · have := (hlt5 k e).2; omega
  rw [← HSN.out] at hD6
  rw [HRS'.out] at hL6
  have hown6 := Wl.row_farL hown5 hL5 hF6 hne5
  have b6 := b5.trans (hF6.below.mono hs)
  clear hD5 hL5 b5 hF6 hown5 hne5 hlt5 hv6
  go_wp2_with fail
  refine (Wl.sync_any hD6 hL6 (Nat.le_refl _)).mono ?_
  rintro e x7 ⟨rfl, hD7, hL7, hF7⟩
  have hown7 := Wl.row_farL hown6 hL6 hF7 hne6
  have b7 := b6.trans (hF7.below.mono hs)
  clear hD6 hL6 b6 hF7 hown6 hne6 hL7
  go_wp2_with fail
  refine (Dk.crash_any hD7 0).mono ?_
  rintro e x8 ⟨rfl, hD8, hF8⟩
  have hD9 := hD8.said (l' := Wl.frames rs') (sy' := (Wl.frames rs').length) (by rw [Dk.leaves, Dk.syncs]; simp) (by rw [Dk.leaves, Dk.syncs]; simp)
  have hown8 := Wl.row_far hown7 hF8
  have b8 := b7.trans (hF8.below.mono hs)
  clear hD7 hD8 b7 hF8 hown7
  go_wp2_with fail
  refine (Wl.open_any hD9 rs' (by rw [HSN.out, HA.out])).mono ?_
  rintro e x9 ⟨a', v', rfl, hD10, hL10, hF10⟩
  have hown9 := Wl.row_far hown8 hF10
  have b9 := b8.trans (hF10.below.mono hs)
  clear hD9 b8 hF10 hown8 hD10
  go_wp2_with fail
  refine (Wl.records_any hL10 (by rw [HL.out]; omega)).mono ?_
  rintro e x10 ⟨u', rfl, hown', hb⟩
  rw [HL.out] at hown'
  obtain ⟨ao', cap', rfl⟩ := Dk.own_form hown'
  have hown10 := Wl.row_below hown9 hb
  have hL11 := hL10.below hb
  have b10 := Dk.behind b9 hb
  have hown'' := Wl.row_mono hown' (Nat.zero_le _)
  have hown11 := Wl.row_mono hown10 (Nat.zero_le _)
  clear b9 hL10 hb hown' hown10 hown9
  have hrz : rs.length + 1 ≤ 9223372036854775807 := by omega
  go_wp2_with fail
  refine (Wl.synced_any hL11).mono ?_
  rintro e x11 ⟨rfl, rfl⟩
  rw [HL.out]
  clear hL11
  go_wp2_with fail
  go_loopw [13] (fun i W => ∃ k : Nat, k ≤ rs.length ∧ i = .int .i64 k ∧ W.ownsRow 0 9 1 (.slice ao rs.length cap) rs.length (Wl.strs rs) ∧ W.ownsRow 0 9 1 (.slice ao' (rs.length + 1) cap') (rs.length + 1) (Wl.strs rs') ∧ Below w.heap.size w W) (fun i _ => rs.length - (intOf i).toNat)
  case atStart => exact ⟨0, Nat.zero_le _, rfl, hown11, hown'', b10⟩
  case round =>
    clear hown11 hown'' b10
    obtain ⟨k, hk, rfl, hO, hN, b10⟩ := hrel
    by_cases hlt : k < rs.length
    · obtain ⟨p, c1, p', c2, t, h1, h2, h3, h4, h5, h6, h7, h8, h9⟩ := Wl.row_two hO (ys := rs') (u := .slice ao' (rs.length + 1) cap') (by rw [HL.out]; exact hN) k hlt HP.out
      rw [HL.out] at h2 h4 h9
      obtain ⟨rfl, rfl⟩ : ao = some ⟨p, 0, none⟩ ∧ cap = c1 := by simpa using h1
      obtain ⟨rfl, rfl⟩ : ao' = some ⟨p', 0, none⟩ ∧ cap' = c2 := by simpa using h2
      have hkk : (0 : Int) ≤ (k : Int) := by omega
      have hkl : (k : Int) < (rs.length : Int) := by omega
      have hkm : (k : Int) < (rs.length : Int) + 1 := by omega
      unfold maxLen at h5 h6
      have hO' := Wl.row_below hO (Below.refl _ _).drew
      have hN' := Wl.row_below hN (Below.refl _ _).drew
      clear h1 h2 hO hN
      go_wp2_with fail
      go_region
      go_wp2
      exact ⟨⟨k + 1, by omega, by go_num, hO', hN', b10.drew⟩, by simp [intOf]; omega⟩
    · obtain rfl : k = rs.length := by omega
      have hrl : rs.length < rs'.length := by rw [HL.out]; omega
      obtain ⟨p', c2, h2, h4, h6, h8⟩ := Wl.row_read (xs := rs') (v := .slice ao' (rs.length + 1) cap') (by rw [HL.out]; exact hN) rs.length hrl
      rw [HL.out] at h2 h4
      obtain ⟨rfl, rfl⟩ : ao' = some ⟨p', 0, none⟩ ∧ cap' = c2 := by simpa using h2
      have hge : rs'[rs.length] = R := by
        have := HLA.out
        rw [List.getElem?_eq_getElem hrl] at this
        exact Option.some.inj this
      rw [hge] at h8
      have hkm : (rs.length : Int) < (rs.length : Int) + 1 := by omega
      have hkk : (0 : Int) ≤ (rs.length : Int) := by omega
      unfold maxLen at h6
      clear h2 hO hN hge hrl hlt
      go_wp2
      go_ret
      exact ⟨rfl, b10⟩

set_option maxRecDepth 100000 in
theorem lifted (os : Os) (started : os.Started) (H : Type) (enc : TypeId × Value → H) :
    ReturnsInHanded {} Try.checked os 8 .any (Rows.walOpensSpec.pre6 enc Try.prog Try.f8 Rows.walOpensRow.domain false) (Rows.walOpensSpec.post enc Try.prog Try.f8 false true false false) := by
  refine returnsInHanded_of_change_sized (C := Try.checked) own started (by kernel_rfl) Try.func8
    (ChangeSpec.witness6 (enc := enc) (C := Try.checked) false ⟨#[], #[.string ByteArray.empty, .string ByteArray.empty], []⟩ 8 (by kernel_rfl) (by kernel_rfl) (by kernel_rfl) (by kernel_rfl)) ?_
  intro W base args ds gs before hval0 hW hcnd hsz0 _
  have hval : ∀ (j : Nat) t v, Try.f8.params[j]? = some t → args[j]? = some v → Value.okWide Try.prog W .any base t v := hval0
  have hsz : (DataW.weightsEach Try.prog (Try.f8.params.toList ++ Rows.walOpensSpec.plain.varTypes Try.prog) (ds ++ gs)).all (· ≤ reachBytes) = true := hsz0
  have hW' := hW
  obtain ⟨p, q, hA0, hV, rfl, hfz, hnd⟩ := hW
  have hA : DataW.TrodAll enc Try.prog W 0 (fun _ => true) true Try.f8.params.toList args.toList ds p := hA0
  rw [Try.params8] at hA hval hsz
  obtain ⟨v0, vs0, d0, ds0, p0, q0, hargs, rfl, rfl, h0, r0⟩ := trodAll_cons hA
  obtain ⟨v1, vs1, d1, ds1, p1, q1, rfl, rfl, rfl, h1, r1⟩ := trodAll_cons r0
  obtain ⟨rfl, rfl, rfl⟩ := trodAll_nil r1
  obtain rfl : args = #[v0, v1] := by cases args; simp_all
  obtain ⟨rfl, rfl⟩ := trodVars_none hV
  obtain ⟨a0, rfl, rfl, rfl, w0⟩ := open_string Try.underlying9 (hval 0 9 v0 rfl rfl) h0
  obtain ⟨a1, rfl, rfl, rfl, w1⟩ := open_string Try.underlying9 (hval 1 9 v1 rfl rfl) h1
  clear hA0 hval0
  have z0 : a0.size ≤ 140737488351232 := by
    have := sized_string hsz (j := 0) (t := 9) rfl rfl
    simp only [Array.length_toList, reachBytes] at this
    exact this
  have z1 : a1.size ≤ 140737488351232 := by
    have := sized_string hsz (j := 1) (t := 9) rfl rfl
    simp only [Array.length_toList, reachBytes] at this
    exact this
  refine (walk a0 a1 W z0 z1).mono fun e W' ⟨he, bel⟩ => ?_
  subst he
  exact ⟨_, rfl, _, _, _, [], _, [], hW', trodAll_mk1 (shut_bool Try.underlying4 _), (trodAll_cons_mk (shut_string Try.underlying9 w0) (trodAll_cons_mk (shut_string Try.underlying9 w1) trodAll_mk0)), rfl, bel.frame _, fun h => by cases h⟩

theorem over : Rows.walOpensRow.holds Try.pinned (OpenSpec.ofChange Rows.walOpensSpec) :=
  OpenClaim.holds_of_wide 8 Try.f8 rfl rfl rfl rfl rfl rfl rfl ⟨rfl, rfl, rfl, rfl, rfl⟩ rfl rfl rfl rfl rfl (by kernel_rfl) Try.func8 (by kernel_rfl)
    (of_decide_eq_true (by kernel_rfl)) (by unfold Func.isWrapper; first | (rw [if_pos (by decide +kernel)]; kernel_rfl) | (rw [if_neg (by decide +kernel)]; exact ⟨rfl, rfl⟩))
    (fun os started H enc _ => lifted os started H enc)

theorem proved : Rows.WalOpensSaid := over
end Go.Proofs.Ytgdaphckgckaaaa.walOpens
