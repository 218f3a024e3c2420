/-
  Proved: for every list of texts and every two numbers of 16 bits the law WalTorn returns true and leaves its inputs as they were. No condition beyond the form's own reach (each text and slice at most 2^47 - 4096 bytes).
-/
import Derived.Test.YtgdaphckgckaaaaWalP
import Derived.Test.YtgdaphckgckaaaaDiskT
import Derived.WalkKit
import Derived.ProofKit
import Derived.OpenShut
import Derived.ShutString
import Derived.SizedLaws
import Derived.ChangeOld
import Derived.Below
import Derived.Carry
import Derived.Lib.SmallJoins
import Derived.Deep.SlicePairs
import Derived.SliceStrings
import Derived.RegionTactic
import Derived.Laws.Small
import Derived.Lib.Strings
namespace Go.Proofs.Ytgdaphckgckaaaa.walTorn
open Go.ChangeShapes Go.WideShapes Go.ChangeAt Go.RowKit Go.Joins Go.Deep
open Go.ChangeMaps (open_string shut_string)
set_option linter.unusedVariables false

theorem own : ownKnob Try.prog.godebug = none := by kernel_rfl
theorem laidOut : laidOutB Try.prog = true := by kernel_rfl

set_option maxRecDepth 100000 in
set_option maxHeartbeats 4000000 in
theorem walk (a0 : Option Addr) (len0 cap0 : Nat) (a1 : Int) (a2 : Int) (w : World) (w0 : ∀ i, i < len0 → ∃ (x : Addr) (e0 : ByteArray), a0 = some x ∧ x.block < w.heap.size ∧ w.cell? (x.add i) = some (.string e0) ∧ e0.size ≤ maxLen) (l0 : len0 ≤ cap0) (m0 : cap0 ≤ maxLen) (w1 : (Lit.int .u16 a1).wf = true) (w2 : (Lit.int .u16 a2).wf = true) :
    Calls Try.prog 5 #[.slice a0 len0 cap0, .int .u16 a1, .int .u16 a2] w fun e w' => e = .returned (.bool true) ∧ Below w.heap.size w w' := by
  have hb1 : 0 ≤ a1 ∧ a1 ≤ 65535 := by simpa [Lit.wf, IntKind.min, IntKind.max, IntKind.signed, IntKind.bits] using w1
  have hb2 : 0 ≤ a2 ∧ a2 ≤ 65535 := by simpa [Lit.wf, IntKind.min, IntKind.max, IntKind.signed, IntKind.bits] using w2
  obtain ⟨n1, rfl⟩ := Int.eq_ofNat_of_zero_le hb1.1
  obtain ⟨n2, rfl⟩ := Int.eq_ofNat_of_zero_le hb2.1
  have hn1 : n1 < 65536 := by omega
  have hn2 : n2 < 65536 := by omega
  unfold maxLen at m0
  have hlen : len0 ≤ 9223372036854775807 := by omega
  have W0 := Lib.hid w0
  clear w0 w1 w2 hb1 hb2
  obtain ⟨i0, hi, hz0, hz1, hz2⟩ := info_parts (P := Try.prog) (e := 9) (z := .string ⟨#[]⟩) (size := 1) (bytes := 16) (by kernel_rfl)
  go_enter Try.func5, Try.ntmps5
  go_wp2_with fail
  refine (Wl.examples_any _).mono ?_
  rintro e x1 ⟨rfl, b1⟩
  have hs := b1.size
  go_wp2_with fail
  refine (Dk.new_yes 1048576 (by decide) (by decide) _).mono ?_
  rintro e x2 ⟨rfl, hD, b⟩
  have b2 := Dk.behind b1 b
  obtain ⟨g, hg⟩ : ∃ g, x1.heap.size = g := ⟨_, rfl⟩
  rw [hg] at hD
  rw [hg] at hs
  rw [hg]
  clear b b1 hg
  go_wp2_with fail
  refine (Wl.open_any hD [] Wl.scan_nil).mono ?_
  rintro e x3 ⟨a, v, rfl, hD3, hL3, hF3⟩
  have hL := hL3.mono hD.heap
  have b3 := b2.trans (hF3.below.mono hs)
  clear hD b2 hF3 hL3
  go_wp2_with fail
  go_loopw [11, 12, 13] (fun al sy i W => ∃ (k sc : Nat) (rs : List ByteArray) (v : Value), k ≤ len0 ∧ k ≤ 12 ∧ i = .int .i64 k ∧ rs.length = k ∧ sy = .int .i64 sc ∧ sc ≤ k ∧ (∀ r ∈ rs, Wl.may r) ∧ (Wl.frames rs).length ≤ 57 * k ∧ W.ownsRow w.heap.size 9 1 al k (Wl.strs rs) ∧
    Dk.DiskAt g g (Wl.frames rs) (Wl.frames (rs.take sc)).length 1048576 false W ∧ Wl.LogIn g a g v rs sc W ∧ Wl.Apart v al ∧ Below w.heap.size w W) (fun _ _ i _ => len0 - (intOf i).toNat)
  case atStart => exact ⟨0, 0, [], v, Nat.zero_le _, Nat.zero_le _, rfl, rfl, rfl, Nat.zero_le _, by simp, Nat.le_refl _, World.ownsRow_nil _ _ _ _, hD3, hL, fun _ _ e => by simp [Value.ownBlock] at e, b3⟩
  case round =>
    clear hD3 hL b3
    obtain ⟨k, sc, rs, v, hk, hk12, rfl, hrl, rfl, hsc, hmay, hfl, hA, hD, hL, hap, b3⟩ := hrel
    by_cases hlt : k < len0 ∧ k < 12
    · obtain ⟨hlt, h12⟩ := hlt
      obtain ⟨x, s0, rfl, hxb, hc0, hs0⟩ := W0.out k hlt
      have hc0' := (b3.cell (p := x.add k) (by rw [Dk.block_add]; exact hxb)).trans hc0
      have hkk : (0 : Int) ≤ (k : Int) := by omega
      have hkl : (k : Int) < (len0 : Int) := by omega
      have hk12' : (k : Int) < 12 := by omega
      unfold maxLen at hs0
      obtain ⟨m, hmin, u0, v0, k0, e0⟩ := Dk.cut_min s0 50 50 rfl
      obtain ⟨X, hX⟩ : ∃ X, s0.extract 0 m = X := ⟨_, rfl⟩
      rw [hX] at e0
      obtain ⟨mS, sS, -⟩ := Wl.one_of 114 X m e0 (by omega)
      have xX : (⟨#[114]⟩ : ByteArray).size + X.size ≤ 9223372036854775807 := by rw [← ByteArray.size_append]; omega
      obtain ⟨S, hS⟩ : ∃ S, (⟨#[114]⟩ : ByteArray) ++ X = S := ⟨_, rfl⟩
      rw [hS] at mS sS
      have MS := Lib.hid mS
      have zS : S.size ≤ 51 := by omega
      have HM := Lib.hid hmay
      have HRL := Lib.hid hrl
      clear e0 hc0 sS mS hmay hrl
      go_wp2_with fail
      go_region
      have hD' := hD.drew
      have hL' := hL.drew
      have hA' := Wl.row_below hA (Below.refl _ _).drew
      have b4 := b3.drew
      go_wp2_with fail
      refine (Wl.putfits_any hD' hL' S MS.out (by omega) (by rw [HRL.out]; omega) (Nat.le_refl _)).mono ?_
      rintro e x4 ⟨v4, rfl, hD4, hL4, hF4, hv4⟩
      have hA4 := Wl.row_farL hA' hL' hF4 hap
      have hap4 := hap.left hA' hv4
      have b5 := b4.trans (hF4.below.mono hs)
      clear hD hL hA b3 hD' hL' hA' b4 hF4 hv4 hap hc0'
      have hB5 := b5.size
      go_wp2_with (at_builtin; refine wpList_append_lies _ rfl _ _ 22 rfl w.heap.size 9 i0 (.string ⟨#[]⟩) 1 16 Try.underlying22 hi hz0 hz1 hz2 rfl (by decide) u11 k (Wl.strs rs) rfl (hA4.alloc _) ⟨x4.heap.size, 0, none⟩ 1 1 [.string S] rfl rfl (cell_one_new _ _ _) (by simp [Value.oneCell']) (by decide) (by unfold maxLen; omega) (by omega) (by simp; omega) (x4.heap.size + 1) (by simp) ?_)
      intro gg cap' x5 hA5 hg5 hat5 _
      have hba : Below x4.heap.size x4 (x4.alloc (.cells #[.string S] 9)) := (Below.refl _ _).alloc (Nat.le_refl _) _
      have hD5 := Wl.disk_row (hD4.below hba) (Wl.row_below hA4 hba) hg5
      have hL5 := (hL4.below hba).kept (Wl.row_below hA4 hba) hg5 hap4
      have hap5 : Wl.Apart v4 (.slice (some ⟨gg, 0, none⟩) (k + 1) cap') := hap4.right hL4.row fun j hj => by
        obtain rfl := Option.some.inj hj
        rcases hat5 with h | h
        · exact .inl h
        · right
          show x4.heap.size ≤ gg
          omega
      have b6 := (b5.alloc hB5 (.cells #[.string S] 9)).grown hg5 (by simp; omega) (fun j hj => (hA4.lt j hj).1)
      clear hD4 hL4 hA4 hap4 b5 hba hg5 hat5
      obtain ⟨rs', hrs'⟩ : ∃ rs', rs ++ [S] = rs' := ⟨_, rfl⟩
      have hfr : Wl.frames rs' = Wl.frames rs ++ Wl.frl S := by rw [← hrs', Wl.frames_snoc]
      have htk : rs'.take sc = rs.take sc := by rw [← hrs', List.take_append_of_le_length (by rw [HRL.out]; exact hsc)]
      have hstr : Wl.strs rs ++ [.string S] = Wl.strs rs' := by rw [← hrs', Wl.strs_snoc]
      have hrl' : rs'.length = k + 1 := by rw [← hrs', List.length_append, HRL.out]; rfl
      have hmay' : ∀ r ∈ rs', Wl.may r := by
        intro r hr
        rw [← hrs'] at hr
        rcases List.mem_append.1 hr with h | h
        · exact HM.out r h
        · obtain rfl := List.mem_singleton.1 h
          exact MS.out
      have hfl' : (Wl.frames rs').length ≤ 57 * (k + 1) := by rw [hfr, List.length_append, Wl.frl_length]; omega
      rw [← hfr, ← htk] at hD5
      rw [hrs'] at hL5
      rw [hstr] at hA5
      have htall : rs'.take (k + 1) = rs' := by rw [← hrl', List.take_length]
      have HRL' := Lib.hid hrl'
      have HM' := Lib.hid hmay'
      have HTA := Lib.hid htall
      clear hfr htk hstr hrl' hmay' hrs' HM HRL htall
      go_wp2_with fail
      · refine (Wl.sync_any hD5 hL5 (Nat.le_refl _)).mono ?_
        rintro e x6 ⟨rfl, hD6, hL6, hF6⟩
        have hA6 := Wl.row_farL hA5 hL5 hF6 hap5
        have b7 := b6.trans (hF6.below.mono hs)
        have hD7 := hD6.said (l' := Wl.frames rs') (sy' := (Wl.frames (rs'.take (k + 1))).length) rfl (by rw [HTA.out, Dk.syncs, if_neg (by decide)])
        rw [HRL'.out] at hL6
        clear hD5 hL5 hA5 b6 hF6 hD6
        go_wp2
        refine ⟨⟨k + 1, k + 1, rs', v4, by omega, by omega, by go_num, HRL'.out, rfl, Nat.le_refl _, HM'.out, hfl', hA6, hD7, hL6, hap5, b7⟩, by simp [intOf]; omega⟩
      · refine ⟨⟨k + 1, sc, rs', v4, by omega, by omega, by go_num, HRL'.out, rfl, by omega, HM'.out, hfl', hA5, hD5, hL5, hap5, b6⟩, by simp [intOf]; omega⟩
    · obtain ⟨ao, cap, rfl⟩ := Dk.own_form hA
      obtain ⟨lv, hlv⟩ : ∃ lv, Dk.leaves (Wl.frames rs).length (Wl.frames (rs.take sc)).length (n2 : Int) = lv := ⟨_, rfl⟩
      have hsy := hD.sy_le
      have hlv2 : (Wl.frames (rs.take sc)).length ≤ lv ∧ lv ≤ (Wl.frames rs).length := by rw [← hlv, Dk.leaves]; omega
      obtain ⟨kk, hkk1, hscan, hall⟩ := Wl.scan_cut rs lv hmay hlv2.2
      have hkk2 := hall sc (by omega) hlv2.1
      obtain ⟨ls, hls⟩ : ∃ ls, rs.take kk = ls := ⟨_, rfl⟩
      have hlsl : ls.length = kk := by rw [← hls, List.length_take]; omega
      have hpre : ls <+: rs := by rw [← hls]; exact List.take_prefix _ _
      have hfls : (Wl.frames ls).length ≤ 1000 := by
        obtain ⟨t, ht⟩ := hpre
        have := congrArg (fun x => (Wl.frames x).length) ht
        simp only [Wl.frames_append, List.length_append] at this
        omega
      have hmls : ∀ r ∈ ls, Wl.may r := fun r hr => hmay r (hpre.subset hr)
      have hmore : Wl.may ⟨#[109, 111, 114, 101]⟩ := by decide
      have hsz : (⟨#[109, 111, 114, 101]⟩ : ByteArray).size = 4 := rfl
      obtain ⟨M, hM⟩ : ∃ M : ByteArray, ⟨#[109, 111, 114, 101]⟩ = M := ⟨_, rfl⟩
      rw [hM] at hmore hsz
      have hsn := Wl.frames_snoc ls M
      have hsall : Wl.scan (Wl.frames (ls ++ [M])) = ls ++ [M] := Wl.scan_all _ fun r hr => by
        rcases List.mem_append.1 hr with h | h
        · exact hmls r h
        · obtain rfl := List.mem_singleton.1 h
          exact hmore
      have hl2 : (ls ++ [M]).length = kk + 1 := by rw [List.length_append, hlsl]; rfl
      have hlast : (ls ++ [M])[kk]? = some M := by rw [← hlsl]; simp
      obtain ⟨ms, hms⟩ : ∃ ms, ls ++ [M] = ms := ⟨_, rfl⟩
      rw [hms] at hsn hsall hl2 hlast
      have hz : k < len0 ∧ ¬ k < 12 ∨ ¬ k < len0 := by omega
      have HRL := Lib.hid hrl
      have HLV := Lib.hid hlv
      have HSC := Lib.hid (hscan.trans hls)
      have HLSL := Lib.hid hlsl
      have HPRE := Lib.hid hpre
      have HMO := Lib.hid hmore
      have HSN := Lib.hid hsn
      have HSA := Lib.hid hsall
      have HL2 := Lib.hid hl2
      have HLA := Lib.hid hlast
      have HMS := Lib.hid hms
      have HM := Lib.hid hM
      have hkr : kk ≤ k := by omega
      clear hlt hmay hrl hlv hscan hls hlsl hpre hmls hmore hsn hsall hl2 hlast hms hM hall hkk1 hlv2 hsy hap
      rcases hz with ⟨hz1, hz2⟩ | hz1
      all_goals
        go_wp2_with fail
        refine (Wl.synced_any hL).mono ?_
        rintro e x6 ⟨rfl, rfl⟩
        clear hL
        go_wp2_with fail
        refine (Dk.crash_any hD (n2 : Int)).mono ?_
        rintro e x7 ⟨rfl, hD7, hF7⟩
        rw [HLV.out] at hD7
        have hA7 := Wl.row_far hA hF7
        have b7 := b3.trans (hF7.below.mono hs)
        clear hD hA b3 hF7
        go_wp2_with fail
        refine (Wl.open_any hD7 ls HSC.out).mono ?_
        rintro e x8 ⟨a2, v2, rfl, hD8, hL8, hF8⟩
        have hA8 := Wl.row_far hA7 hF8
        have hL9 := hL8.mono hD7.heap
        have b8 := b7.trans (hF8.below.mono hs)
        clear hD7 hA7 b7 hF8 hL8
        rw [HLSL.out] at hL9
        go_wp2_with fail
        refine (Wl.records_any hL9 (by rw [HLSL.out]; omega)).mono ?_
        rintro e x9 ⟨u9, rfl, hown, hb⟩
        rw [HLSL.out] at hown
        obtain ⟨ao9, cap9, rfl⟩ := Dk.own_form hown
        have hD9 := hD8.below hb
        have hL10 := hL9.below hb
        have hA9 := Wl.row_below hA8 hb
        have b9 := Dk.behind b8 hb
        clear hD8 hL9 hA8 b8 hb
        have t1 : ¬ (kk : Int) < (sc : Int) := by omega
        have t2 : ¬ (k : Int) < (kk : Int) := by omega
        have hown9 := Wl.row_mono hown (Nat.zero_le _)
        have hA10 := Wl.row_mono hA9 (Nat.zero_le _)
        clear hown hA9
        go_wp2_with fail
        go_loopw [17] (fun i W => ∃ j : Nat, j ≤ kk ∧ i = .int .i64 j ∧ W.ownsRow 0 9 1 (.slice ao9 kk cap9) kk (Wl.strs ls) ∧ W.ownsRow 0 9 1 (.slice ao k cap) k (Wl.strs rs) ∧ Dk.DiskAt g g (Wl.frames ls) (Wl.frames ls).length 1048576 false W ∧ Wl.LogIn g a2 g v2 ls kk W ∧ Below w.heap.size w W) (fun i _ => kk - (intOf i).toNat)
        case atStart => exact ⟨0, Nat.zero_le _, rfl, hown9, hA10, hD9, hL10, b9⟩
        case round =>
          clear hown9 hA10 hD9 hL10 b9
          obtain ⟨j, hj, rfl, hO, hN, hD9, hL10, b9⟩ := hrel
          by_cases hlt : j < kk
          · obtain ⟨p, c1, p', c2, t, h1, h2, h3, h4, h5, h6, h7, h8, h9⟩ := Wl.row_two (xs := ls) (ys := rs) (v := .slice ao9 kk cap9) (u := .slice ao k cap) (by rw [HLSL.out]; exact hO) (by rw [HRL.out]; exact hN) j (by rw [HLSL.out]; exact hlt) HPRE.out
            rw [HLSL.out] at h1 h3
            rw [HRL.out] at h2 h4 h9
            obtain ⟨rfl, rfl⟩ : ao9 = some ⟨p, 0, none⟩ ∧ cap9 = c1 := by simpa using h1
            obtain ⟨rfl, rfl⟩ : ao = some ⟨p', 0, none⟩ ∧ cap = c2 := by simpa using h2
            have hjj : (0 : Int) ≤ (j : Int) := by omega
            have hjl : (j : Int) < (kk : Int) := by omega
            have hjm : (j : Int) < (k : Int) := by omega
            unfold maxLen at h5 h6
            have hO' := Wl.row_below hO (Below.refl _ _).drew
            have hN' := Wl.row_below hN (Below.refl _ _).drew
            have hD' := hD9.drew
            have hL' := hL10.drew
            clear h1 h2 hO hN hD9 hL10
            go_wp2_with fail
            go_region
            go_wp2
            exact ⟨⟨j + 1, by omega, by go_num, hO', hN', hD', hL', b9.drew⟩, by simp [intOf]; omega⟩
          · obtain rfl : j = kk := by omega
            clear hO hN hlt hj
            go_wp2_with fail
            rw [HM.out]
            refine (Wl.putfits_any hD9 hL10 M HMO.out (by omega) (by rw [HLSL.out]; omega) (Nat.le_refl _)).mono ?_
            rintro e x10 ⟨v10, rfl, hD10, hL11, hF10, -⟩
            rw [← HSN.out] at hD10
            rw [HMS.out] at hL11
            have b10 := b9.trans (hF10.below.mono hs)
            clear hD9 hL10 b9 hF10
            go_wp2_with fail
            refine (Wl.sync_any hD10 hL11 (Nat.le_refl _)).mono ?_
            rintro e x11 ⟨rfl, hD11, hL12, hF11⟩
            rw [HL2.out] at hL12
            have b11 := b10.trans (hF11.below.mono hs)
            clear hD10 hL11 b10 hF11
            go_wp2_with fail
            refine (Wl.open_any hD11 ms HSA.out).mono ?_
            rintro e x12 ⟨a3, v3, rfl, hD12, hL13, hF12⟩
            have hL14 := hL12.far hF12
            have b12 := b11.trans (hF12.below.mono hs)
            clear hD11 hL12 b11 hF12 hD12
            go_wp2_with fail
            refine (Wl.records_any hL13 (by rw [HL2.out]; omega)).mono ?_
            rintro e x13 ⟨u13, rfl, hown, hb⟩
            have hL15 := hL14.below hb
            have b13 := Dk.behind b12 hb
            have hjl : j < ms.length := by rw [HL2.out]; omega
            obtain ⟨p', c2, h2, h4, h6, h8⟩ := Wl.row_read hown j hjl
            have hge : ms[j] = M := by
              have := HLA.out
              rw [List.getElem?_eq_getElem hjl] at this
              exact Option.some.inj this
            rw [hge] at h8
            rw [HL2.out] at h2 h4
            subst h2
            have hjm : (j : Int) < (j : Int) + 1 := by omega
            have hjk : (0 : Int) ≤ (j : Int) := by omega
            unfold maxLen at h6
            have hjz : j + 1 ≤ 9223372036854775807 := by omega
            clear hL13 hL14 hb b12 hown hge hjl
            go_wp2_with fail
            refine (Wl.synced_any hL15).mono ?_
            rintro e x14 ⟨rfl, rfl⟩
            have hM2 : (M.toList == [109, 111, 114, 101]) = true := by rw [← HM.out, ByteArray.toList_eq]; rfl
            go_wp2
            go_ret
            exact ⟨rfl, b13⟩

set_option maxRecDepth 100000 in
theorem lifted (os : Os) (started : os.Started) (H : Type) (enc : TypeId × Value → H) :
    ReturnsInHanded {} Try.checked os 5 .any (Rows.walTornSpec.pre6 enc Try.prog Try.f5 Rows.walTornRow.domain false) (Rows.walTornSpec.post enc Try.prog Try.f5 false true false false) := by
  refine returnsInHanded_of_change_sized (C := Try.checked) own started (by kernel_rfl) Try.func5
    (ChangeSpec.witness6 (enc := enc) (C := Try.checked) false ⟨#[], #[.slice none 0 0, .int .u16 0, .int .u16 0], []⟩ 8 (by kernel_rfl) (by kernel_rfl) (by kernel_rfl) (by kernel_rfl)) ?_
  intro W base args ds gs before hval0 hW hcnd hsz0 _
  have hval : ∀ (j : Nat) t v, Try.f5.params[j]? = some t → args[j]? = some v → Value.okWide Try.prog W .any base t v := hval0
  have hsz : (DataW.weightsEach Try.prog (Try.f5.params.toList ++ Rows.walTornSpec.plain.varTypes Try.prog) (ds ++ gs)).all (· ≤ reachBytes) = true := hsz0
  have hW' := hW
  obtain ⟨p, q, hA0, hV, rfl, hfz, hnd⟩ := hW
  have hA : DataW.TrodAll enc Try.prog W 0 (fun _ => true) true Try.f5.params.toList args.toList ds p := hA0
  rw [Try.params5] at hA hval hsz
  obtain ⟨v0, vs0, d0, ds0, p0, q0, hargs, rfl, rfl, h0, r0⟩ := trodAll_cons hA
  obtain ⟨v1, vs1, d1, ds1, p1, q1, rfl, rfl, rfl, h1, r1⟩ := trodAll_cons r0
  obtain ⟨v2, vs2, d2, ds2, p2, q2, rfl, rfl, rfl, h2, r2⟩ := trodAll_cons r1
  obtain ⟨rfl, rfl, rfl⟩ := trodAll_nil r2
  obtain rfl : args = #[v0, v1, v2] := by cases args; simp_all
  obtain ⟨rfl, rfl⟩ := trodVars_none hV
  have k0 := h0
  have lt0 : ∀ x ∈ p0, x.block < W.heap.size := by obtain ⟨m, hm⟩ := k0; exact DataW.trod_lt m _ _ _ hm
  obtain ⟨a0, len0, cap0, rfl⟩ := okWide_slice Try.underlying22 (hval 0 22 v0 rfl rfl)
  obtain ⟨a1, rfl, rfl, rfl, w1⟩ := open_int Try.underlying32 (hval 1 32 v1 rfl rfl) h1
  obtain ⟨a2, rfl, rfl, rfl, w2⟩ := open_int Try.underlying32 (hval 2 32 v2 rfl rfl) h2
  clear hA0 hval0
  have b0 : (∀ i, i < len0 → ∃ (x : Addr) (e0 : ByteArray), a0 = some x ∧ x.block < W.heap.size ∧ W.cell? (x.add i) = some (.string e0) ∧ e0.size ≤ maxLen) ∧ len0 ≤ cap0 ∧ cap0 ≤ maxLen := by
    obtain ⟨fuel, hf⟩ := h0
    rcases open_strings Try.underlying22 Try.underlying9 (by kernel_rfl) hf with ⟨hcs, _⟩ | ⟨x, l, c, ss, hcs, _, hl, hm, hsl, _, hel, hmax⟩
    · simp [Value.cells] at hcs
      obtain ⟨rfl, rfl, rfl⟩ := hcs
      exact ⟨fun i hi => absurd hi (by omega), Nat.le_refl _, Nat.zero_le _⟩
    · simp [Value.cells] at hcs
      obtain ⟨rfl, rfl, rfl⟩ := hcs
      refine ⟨fun i hi => ?_, hl, hm⟩
      have hi' : i < ss.length := by rw [hsl]; split <;> omega
      have c0 := hel i hi'
      have hb := World.block_lt_of_cell? _ _ c0
      rw [Dk.block_add] at hb
      exact ⟨x, _, rfl, hb, c0, hmax _ (by rw [List.getD_eq_getElem?_getD, List.getElem?_eq_getElem hi']; exact List.getElem_mem hi')⟩
  obtain ⟨w0, l0, m0⟩ := b0
  refine (walk a0 len0 cap0 a1 a2 W w0 l0 m0 w1 w2).mono fun e W' ⟨he, bel⟩ => ?_
  subst he
  exact ⟨_, rfl, _, _, _, [], _, [], hW', trodAll_mk1 (shut_bool Try.underlying4 _), (trodAll_cons_mk (Below.trod laidOut (by kernel_rfl) (of_decide_eq_true (by kernel_rfl)) k0 bel lt0) (trodAll_cons_mk (shut_int Try.underlying32 w1) (trodAll_cons_mk (shut_int Try.underlying32 w2) trodAll_mk0))), rfl, bel.frame _, fun h => by cases h⟩

theorem over : Rows.walTornRow.holds Try.pinned (OpenSpec.ofChange Rows.walTornSpec) :=
  OpenClaim.holds_of_wide 5 Try.f5 rfl rfl rfl rfl rfl rfl rfl ⟨rfl, rfl, rfl, rfl, rfl⟩ rfl rfl rfl rfl rfl (by kernel_rfl) Try.func5 (by kernel_rfl)
    (of_decide_eq_true (by kernel_rfl)) (by unfold Func.isWrapper; first | (rw [if_pos (by decide +kernel)]; kernel_rfl) | (rw [if_neg (by decide +kernel)]; exact ⟨rfl, rfl⟩))
    (fun os started H enc _ => lifted os started H enc)

theorem proved : Rows.WalTornSaid := over
end Go.Proofs.Ytgdaphckgckaaaa.walTorn
