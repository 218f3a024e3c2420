/-
  Proved: for every room, both flags and every list of deeds the law DiskPlays returns true and leaves its inputs as they were. No condition beyond the form's own reach (each text and slice at most 2^47 - 4096 bytes).
-/
import Derived.Test.YtcoeodfcpnoboaaDiskR
import Derived.WalkKit
import Derived.RegionTactic
import Derived.Deep.CutBlock
import Derived.Deep.DeepCutAuto
import Derived.Deep.RegionHeld3
import Derived.Laws.Small
import Derived.Lib.Strings
import Derived.ProofKit
import Derived.OpenShut
import Derived.ShutString
import Derived.SizedLaws
import Derived.ChangeOld
import Derived.Below
import Derived.Carry
import Derived.Lib.SmallJoins
import Derived.Deep.SlicePairs
import Derived.SliceStrings
namespace Go.Proofs.Ytcoeodfcpnoboaa.diskPlays
open Go.ChangeShapes Go.WideShapes Go.ChangeAt Go.RowKit Go.Joins Go.Deep
open Go.ChangeMaps (open_string shut_string)
set_option linter.unusedVariables false

theorem own : ownKnob Try.prog.godebug = none := by kernel_rfl
theorem laidOut : laidOutB Try.prog = true := by kernel_rfl

set_option maxRecDepth 100000 in
set_option maxHeartbeats 4000000 in
theorem walk (a0 : Int) (a1 : Bool) (a2 : Option Addr) (len2 cap2 : Nat) (w : World) (w0 : (Lit.int .i64 a0).wf = true) (w2 : ∀ i, i < len2 → ∃ (x : Addr) (e0 : Int) (e1 : ByteArray) (e2 : Int), a2 = some x ∧ x.block < w.heap.size ∧ w.cell? (x.add (i * 3)) = some (.int .u8 e0) ∧ w.cell? (x.add (i * 3 + 1)) = some (.string e1) ∧ w.cell? (x.add (i * 3 + 2)) = some (.int .i64 e2) ∧ (Lit.int .u8 e0).wf = true ∧ e1.size ≤ 140737488351232 ∧ (Lit.int .i64 e2).wf = true) (l2 : len2 ≤ cap2) (m2 : cap2 ≤ maxLen) :
    Calls Try.prog 3 #[.int .i64 a0, .bool a1, .slice a2 len2 cap2] w fun e w' => e = .returned (.bool true) ∧ Below w.heap.size w w' := by
  unfold maxLen at m2
  have hlen : len2 ≤ 9223372036854775807 := by omega
  have W2 := Lib.hid w2
  clear w2 w0
  go_enter Try.func3, Try.ntmps3
  go_wp2_with fail
  refine (Dk.examples_any _).mono ?_
  rintro e x1 ⟨rfl, b1⟩
  go_upto_if 18 with fail
  go_cut [0, 1, 18] (fun s0 _ _ wx => ∃ z : Int, s0 = .int .i64 z ∧ wx = x1)
  case first =>
    go_wp2_with fail
    all_goals (go_meet; exact ⟨_, rfl, rfl⟩)
  case rest =>
    obtain ⟨z, rfl, rfl⟩ := hcut
    by_cases hz : 1 ≤ z ∧ z ≤ 16777216
    · obtain ⟨r, rfl⟩ : ∃ r : Nat, z = (r : Int) := ⟨z.toNat, by omega⟩
      have hr1 : 1 ≤ r := by omega
      have hr2 : r ≤ 16777216 := by omega
      clear hz
      go_wp2_with fail
      refine (Dk.new_yes r hr1 hr2 _).mono ?_
      rintro e x2 ⟨rfl, hD, b⟩
      have b2 := Dk.behind b1 b
      obtain ⟨g, hg⟩ : ∃ g, wc.heap.size = g := ⟨_, rfl⟩
      rw [hg] at hD
      have hBg : w.heap.size ≤ g := by rw [← hg]; exact b1.size
      rw [hg]
      clear b b1 hg
      go_wp2_with fail
      refine (Dk.ref_new_yes r hr1 hr2 _).mono ?_
      rintro e x3 ⟨rfl, hR, b⟩
      have hP : Dk.Pair w w.heap.size g x2.heap.size ⟨#[]⟩ 0 r false x3 := ⟨hD.below b, hR, Dk.behind b2 b, hBg, b2.size⟩
      generalize x2.heap.size = y at *
      clear hD hR b b2
      go_wp2_with fail
      go_loopw [11] (fun i W => ∃ (k : Nat) (s : ByteArray) (sy ro : Nat) (h : Bool), k ≤ len2 ∧ k ≤ 60 ∧ i = .int .i64 k ∧ Dk.Pair w w.heap.size g y s sy ro h W) (fun i _ => len2 - (intOf i).toNat)
      case atStart => exact ⟨0, ⟨#[]⟩, 0, r, false, Nat.zero_le _, Nat.zero_le _, rfl, hP⟩
      case round =>
        clear hP
        obtain ⟨k, s, sy, ro, h, hk, hk60, rfl, hP⟩ := hrel
        by_cases hlt : k < len2 ∧ k < 60
        · obtain ⟨hlt, h60⟩ := hlt
          obtain ⟨x, c0, t, n, rfl, hxb, hc0, hc1, hc2, hwc, hts, -⟩ := W2.out k hlt
          have hc0' := (hP.2.2.1.cell (p := x.add (k * 3)) (by rw [Dk.block_add]; exact hxb)).trans hc0
          have hc1' := (hP.2.2.1.cell (p := x.add (k * 3 + 1)) (by rw [Dk.block_add]; exact hxb)).trans hc1
          have hc2' := (hP.2.2.1.cell (p := x.add (k * 3 + 2)) (by rw [Dk.block_add]; exact hxb)).trans hc2
          rw [Dk.add_at _ _ 1 (by decide)] at hc1'
          rw [Dk.add_at _ _ 2 (by decide)] at hc2'
          have hkk : (0 : Int) ≤ (k : Int) := by omega
          have hkl : (k : Int) < (len2 : Int) := by omega
          have h60' : (k : Int) < 60 := by omega
          have hc8 : 0 ≤ c0 ∧ c0 ≤ 255 := by simpa [Lit.wf, IntKind.min, IntKind.max, IntKind.signed, IntKind.bits] using hwc
          obtain ⟨c, rfl⟩ := Int.eq_ofNat_of_zero_le hc8.1
          have hc255 : c ≤ 255 := by omega
          have hP1 := hP.below ((Below.refl _ _).alloc (Nat.le_refl _) (.cells #[.int .u8 (c : Int), .string t, .int .i64 n] 32))
          have hd1 : Dk.Deed (wr.alloc (.cells #[.int .u8 (c : Int), .string t, .int .i64 n] 32)) wr.heap.size c t n := heap_alloc_new _ _
          clear hc0 hc1 hc2 hwc hc8
          go_upto_if 66 with fail
          go_cut [12, 13] (fun s12 s13 wx => ∃ (d : Nat) (z : Int), s12 = .pointer (some ⟨d, 0, none⟩) ∧ s13 = .int .i64 z ∧ Dk.Pair w w.heap.size g y s sy ro h wx ∧ Dk.Deed wx d c t n)
          case first =>
            go_wp2_with fail
            all_goals (go_meet; exact ⟨_, _, rfl, rfl, hP1, hd1⟩)
          case rest =>
            clear hP hP1 hd1 hc0' hc1' hc2'
            obtain ⟨d, z, rfl, rfl, hP, hd⟩ := hcut
            have hsz := hP.size_le
            have hsr := hP.len_le
            have hsy := hP.sy_le
            have hro := hP.1.ro_le
            obtain ⟨d0, d1, -⟩ := hd.cells
            obtain ⟨r0, r1, r2, r3⟩ := hP.2.1.cells
            go_upto_block 2 with fail
            go_cut [14, 71] (fun s14 _ wx => s14 = .bool true ∧ ∃ (s : ByteArray) (sy ro : Nat) (h : Bool), Dk.Pair w w.heap.size g y s sy ro h wx)
            case first =>
              rcases (show c % 10 = 4 ∨ c % 10 = 5 ∨ c % 10 = 6 ∨ c % 10 = 7 ∨ c % 10 = 8 ∨ c % 10 = 9 ∨ c % 10 < 4 by omega) with hr | hr | hr | hr | hr | hr | hr
              · have hr' : (c : Int) % 10 = 4 := by omega
                clear hr
                go_wp2_with fail
                refine (Dk.sync_any hP.1).mono ?_
                rintro e w5 ⟨rfl, hD5, hF⟩
                have H := hP.half hF
                go_wp2_with fail
                refine (Dk.ref_sync H.1).mono ?_
                rintro e w6 ⟨rfl, hR, hg⟩
                have hP6 := Dk.Pair.whole H (hD5.said rfl (by rw [Dk.data_length])) hR hg rfl
                go_wp2_with fail
                all_goals (go_meet; exact ⟨rfl, _, _, _, _, hP6⟩)
              · have hr' : (c : Int) % 10 = 5 := by omega
                clear hr
                go_wp2_with fail
                refine (Dk.sync_any hP.1).mono ?_
                rintro e w5 ⟨rfl, hD5, hF⟩
                have H := hP.half hF
                go_wp2_with fail
                refine (Dk.ref_sync H.1).mono ?_
                rintro e w6 ⟨rfl, hR, hg⟩
                have hP6 := Dk.Pair.whole H (hD5.said rfl (by rw [Dk.data_length])) hR hg rfl
                go_wp2_with fail
                all_goals (go_meet; exact ⟨rfl, _, _, _, _, hP6⟩)
              · have hr' : (c : Int) % 10 = 6 := by omega
                clear hr
                go_wp2_with fail
                refine (Dk.crash_any hP.1 z).mono ?_
                rintro e w5 ⟨rfl, hD5, hF⟩
                rw [Dk.data_length] at hD5
                have H := hP.half hF
                go_wp2_with fail
                refine (Dk.ref_crash H.1 hsz hsy z).mono ?_
                rintro e w6 ⟨rfl, hR, hg⟩
                have hP6 := Dk.Pair.whole H hD5 hR hg (by rw [Lib.extract_data]; simp)
                go_wp2_with fail
                all_goals (go_meet; exact ⟨rfl, _, _, _, _, hP6⟩)
              · have hr' : (c : Int) % 10 = 7 := by omega
                clear hr
                rcases Int.lt_or_le z 0 with z1 | z1
                · go_wp2_with fail
                  refine (Dk.cut_no hP.1 z (by rw [Dk.data_length]; omega)).mono ?_
                  rintro e w5 ⟨rfl, rfl⟩
                  go_wp2_with fail
                  refine (Dk.ref_cut_no hP.2.1 z (by omega)).mono ?_
                  rintro e w6 ⟨rfl, rfl⟩
                  go_wp2_with fail
                  all_goals (go_meet; exact ⟨rfl, _, _, _, _, hP⟩)
                rcases Int.lt_or_le (s.size : Int) z with z2 | z2
                · go_wp2_with fail
                  refine (Dk.cut_no hP.1 z (by rw [Dk.data_length]; omega)).mono ?_
                  rintro e w5 ⟨rfl, rfl⟩
                  go_wp2_with fail
                  refine (Dk.ref_cut_no hP.2.1 z (by omega)).mono ?_
                  rintro e w6 ⟨rfl, rfl⟩
                  go_wp2_with fail
                  all_goals (go_meet; exact ⟨rfl, _, _, _, _, hP⟩)
                obtain ⟨q, rfl⟩ : ∃ q : Nat, z = (q : Int) := ⟨z.toNat, by omega⟩
                go_wp2_with fail
                refine (Dk.cut_yes hP.1 q (by rw [Dk.data_length]; omega)).mono ?_
                rintro e w5 ⟨rfl, hD5, hF⟩
                have H := hP.half hF
                go_wp2_with fail
                refine (Dk.ref_cut_yes H.1 hsz q (by omega)).mono ?_
                rintro e w6 ⟨rfl, hR, hg⟩
                have hP6 := Dk.Pair.whole H hD5 hR hg (by rw [Lib.extract_data]; simp)
                go_wp2_with fail
                all_goals (go_meet; exact ⟨rfl, _, _, _, _, hP6⟩)
              · have hr' : (c : Int) % 10 = 8 := by omega
                clear hr
                go_wp2_with fail
                refine (Dk.grow_any hP.1 z).mono ?_
                rintro e w5 ⟨rfl, hD5, hF⟩
                have H := hP.half hF
                go_wp2_with fail
                refine (Dk.ref_grow H.1 hro z).mono ?_
                rintro e w6 ⟨rfl, hR, hg⟩
                have hP6 := Dk.Pair.whole H hD5 hR hg rfl
                go_wp2_with fail
                all_goals (go_meet; exact ⟨rfl, _, _, _, _, hP6⟩)
              · have hr' : (c : Int) % 10 = 9 := by omega
                clear hr
                clear r0 r1 r2 r3
                go_wp2_with fail
                refine (Dk.hold_any hP.1).mono ?_
                rintro e w5 ⟨rfl, hD5, hF⟩
                have H := hP.half hF
                obtain ⟨q0, q1, q2, q3⟩ := H.1.cells
                have q4 := H.1.free 3
                have hP6 := Dk.Pair.whole H hD5 (H.1.set3 true) (Lib.grownBy_setCell _ _ _ _) rfl
                go_wp2_with fail
                all_goals (go_meet; exact ⟨rfl, _, _, _, _, hP6⟩)
              · obtain ⟨q, hq⟩ : ∃ q, c % 10 = q := ⟨_, rfl⟩
                have hr' : (c : Int) % 10 = (q : Int) := by omega
                have e4 : ((q : Int) == 4) = false := by rw [beq_eq_false_iff_ne]; omega
                have e5 : ((q : Int) == 5) = false := by rw [beq_eq_false_iff_ne]; omega
                have e6 : ((q : Int) == 6) = false := by rw [beq_eq_false_iff_ne]; omega
                have e7 : ((q : Int) == 7) = false := by rw [beq_eq_false_iff_ne]; omega
                have e8 : ((q : Int) == 8) = false := by rw [beq_eq_false_iff_ne]; omega
                have e9 : ((q : Int) == 9) = false := by rw [beq_eq_false_iff_ne]; omega
                clear hr hq
                have hPd := hP.drew
                have hdd : Dk.Deed wc.drew d c t n := hd
                clear r0 r1 r2 r3
                rcases Nat.lt_or_ge ro (s.size + t.size) with g1 | g1
                · go_wp2_with fail
                  go_region_held3 (fun w' => w'.cell? ⟨d, 1, none⟩ = some (.string t)) (first | exact (Dk.Deed.cells (by assumption)).2.1) (first | (go_at_call 21; refine (Dk.append_full hPd.1 t (by unfold maxLen; omega) (by rw [Dk.data_length]; omega)).mono ?_; rintro e w5 ⟨rfl, hD5, hF⟩; have H := hPd.half hF; have hd5 := hdd.far hF) | (go_at_call 22; refine (Dk.ref_append_full H.1 hsz t hts g1).mono ?_; rintro e w6 ⟨rfl, hR, hg⟩; have hP6 := Dk.Pair.whole H hD5 hR hg (rfl); have hd6 := Dk.Deed.grown hd5 H.1 hg))
                  go_wp2_with fail
                  all_goals (go_meet; exact ⟨rfl, _, _, _, _, hP6⟩)
                · go_wp2_with fail
                  go_region_held3 (fun w' => w'.cell? ⟨d, 1, none⟩ = some (.string t)) (first | exact (Dk.Deed.cells (by assumption)).2.1) (first | (go_at_call 21; refine (Dk.append_fits hPd.1 t (by rw [Dk.data_length]; omega)).mono ?_; rintro e w5 ⟨rfl, hD5, hF⟩; have H := hPd.half hF; have hd5 := hdd.far hF) | (go_at_call 22; refine (Dk.ref_append_fits H.1 hro t g1).mono ?_; rintro e w6 ⟨rfl, hR, hg⟩; have hP6 := Dk.Pair.whole H hD5 hR hg ((Dk.data_append s t).symm); have hd6 := Dk.Deed.grown hd5 H.1 hg))
                  go_wp2_with fail
                  all_goals (go_meet; exact ⟨rfl, _, _, _, _, hP6⟩)
            case rest =>
              clear hP hd hsz hsr hsy hro d0 d1 r0 r1 r2 r3
              obtain ⟨rfl, s, sy, ro, h, hP⟩ := hcut
              have hPd := hP.drew
              go_wp2_with fail
              go_region_held3 (fun w' => w'.cell? ⟨y, 0, none⟩ = some (.string s) ∧ w'.cell? ⟨y, 1, none⟩ = some (.int .i64 sy) ∧ w'.cell? ⟨y, 2, none⟩ = some (.int .i64 ro)) (first | exact Dk.Pair.three (by assumption)) (first | (go_at_call 23; refine (Dk.bytes_str hPd.1 s rfl).mono ?_; rintro e w7 ⟨rfl, -, hb⟩; have hP7 := hPd.below hb) | (go_at_call 24; refine (Dk.synced_any hP7.1).mono ?_; rintro e w8 ⟨rfl, rfl⟩) | (go_at_call 25; refine (Dk.room_any hP7.1).mono ?_; rintro e w9 ⟨rfl, rfl⟩))
              go_wp2
              refine ⟨⟨k + 1, s, sy, ro, h, by omega, by omega, by go_num, hP7⟩, by simp [intOf]; omega⟩
        · have hz : k < len2 ∧ ¬ k < 60 ∨ ¬ k < len2 := by omega
          have b2 := hP.2.2.1
          clear hlt hP
          rcases hz with ⟨hz1, hz2⟩ | hz1
          all_goals
            go_wp2
            go_ret
            exact ⟨rfl, b2⟩
    · by_cases h1 : 1 ≤ z
      · have h2 : 16777216 < z := by omega
        go_wp2_with fail
        refine (Dk.new_no z hz _).mono ?_
        rintro e x2 ⟨rfl, rfl⟩
        go_wp2_with fail
        refine (Dk.ref_new_no z hz _).mono ?_
        rintro e x2 ⟨rfl, rfl⟩
        clear hz
        go_wp2
        go_ret
        exact ⟨rfl, b1⟩
      · go_wp2_with fail
        refine (Dk.new_no z hz _).mono ?_
        rintro e x2 ⟨rfl, rfl⟩
        go_wp2_with fail
        refine (Dk.ref_new_no z hz _).mono ?_
        rintro e x2 ⟨rfl, rfl⟩
        clear hz
        go_wp2
        go_ret
        exact ⟨rfl, b1⟩

set_option maxRecDepth 100000 in
theorem lifted (os : Os) (started : os.Started) (H : Type) (enc : TypeId × Value → H) :
    ReturnsInHanded {} Try.checked os 3 .any (Rows.diskPlaysSpec.pre6 enc Try.prog Try.f3 Rows.diskPlaysRow.domain false) (Rows.diskPlaysSpec.post enc Try.prog Try.f3 false true false false) := by
  refine returnsInHanded_of_change_sized (C := Try.checked) own started (by kernel_rfl) Try.func3
    (ChangeSpec.witness6 (enc := enc) (C := Try.checked) false ⟨#[], #[.int .i64 0, .bool false, .slice none 0 0], []⟩ 8 (by kernel_rfl) (by kernel_rfl) (by kernel_rfl) (by kernel_rfl)) ?_
  intro W base args ds gs before hval0 hW hcnd hsz0 _
  have hval : ∀ (j : Nat) t v, Try.f3.params[j]? = some t → args[j]? = some v → Value.okWide Try.prog W .any base t v := hval0
  have hsz : (DataW.weightsEach Try.prog (Try.f3.params.toList ++ Rows.diskPlaysSpec.plain.varTypes Try.prog) (ds ++ gs)).all (· ≤ reachBytes) = true := hsz0
  have hW' := hW
  obtain ⟨p, q, hA0, hV, rfl, hfz, hnd⟩ := hW
  have hA : DataW.TrodAll enc Try.prog W 0 (fun _ => true) true Try.f3.params.toList args.toList ds p := hA0
  rw [Try.params3] at hA hval hsz
  obtain ⟨v0, vs0, d0, ds0, p0, q0, hargs, rfl, rfl, h0, r0⟩ := trodAll_cons hA
  obtain ⟨v1, vs1, d1, ds1, p1, q1, rfl, rfl, rfl, h1, r1⟩ := trodAll_cons r0
  obtain ⟨v2, vs2, d2, ds2, p2, q2, rfl, rfl, rfl, h2, r2⟩ := trodAll_cons r1
  obtain ⟨rfl, rfl, rfl⟩ := trodAll_nil r2
  obtain rfl : args = #[v0, v1, v2] := by cases args; simp_all
  obtain ⟨rfl, rfl⟩ := trodVars_none hV
  have k2 := h2
  have lt2 : ∀ x ∈ p2, x.block < W.heap.size := by obtain ⟨m, hm⟩ := k2; exact DataW.trod_lt m _ _ _ hm
  obtain ⟨a0, rfl, rfl, rfl, w0⟩ := open_int Try.underlying3 (hval 0 3 v0 rfl rfl) h0
  obtain ⟨a1, rfl, rfl, rfl⟩ := open_bool Try.underlying4 (hval 1 4 v1 rfl rfl) h1
  obtain ⟨a2, len2, cap2, rfl⟩ := okWide_slice Try.underlying22 (hval 2 22 v2 rfl rfl)
  clear hA0 hval0
  have b2 : (∀ i, i < len2 → ∃ (x : Addr) (e0 : Int) (e1 : ByteArray) (e2 : Int), a2 = some x ∧ x.block < W.heap.size ∧ W.cell? (x.add (i * 3)) = some (.int .u8 e0) ∧ W.cell? (x.add (i * 3 + 1)) = some (.string e1) ∧ W.cell? (x.add (i * 3 + 2)) = some (.int .i64 e2) ∧ (Lit.int .u8 e0).wf = true ∧ e1.size ≤ 140737488351232 ∧ (Lit.int .i64 e2).wf = true) ∧ len2 ≤ cap2 ∧ cap2 ≤ maxLen := by
    obtain ⟨fuel, hf⟩ := h2
    rw [show (Value.slice a2 len2 cap2).cells.toList = [Value.slice a2 len2 cap2] from rfl] at hf
    obtain ⟨hl, hm, hel⟩ := Dk.open_triples Try.underlying22 Try.underlying32 (by kernel_rfl) rfl rfl rfl (by kernel_rfl) (by kernel_rfl) (by kernel_rfl) hf
    refine ⟨fun i hi => ?_, hl, hm⟩
    obtain ⟨x, V0, V1, V2, n, D0, D1, D2, elems, rest, hx, c0, c1, c2, t0, t1, t2, hx1, hel1⟩ := hel i hi
    obtain ⟨e0, q0, y0, s0⟩ := DataW.trod_int Try.underlying5 t0
    subst y0
    obtain rfl : V0 = .int .u8 e0 := by simpa using q0
    obtain ⟨e1, q1, y1, s1⟩ := DataW.trod_string Try.underlying9 t1
    subst y1
    obtain rfl : V1 = .string e1 := by simpa using q1
    obtain ⟨e2, q2, y2, s2⟩ := DataW.trod_int Try.underlying3 t2
    subst y2
    obtain rfl : V2 = .int .i64 e2 := by simpa using q2
    have g1 : e1.size ≤ 140737488351232 := by
      have := Dk.sized_nested hsz (j := 2) (t := 22) (m := 1) rfl (congrArg some hx1) Try.underlying22 hel1 Try.underlying32 rfl rfl
      simpa [reachBytes] using this
    have hb := World.block_lt_of_cell? _ _ c0
    rw [Dk.block_add] at hb
    exact ⟨x, e0, e1, e2, hx, hb, c0, c1, c2, s0, g1, s2⟩
  obtain ⟨w2, l2, m2⟩ := b2
  refine (walk a0 a1 a2 len2 cap2 W w0 w2 l2 m2).mono fun e W' ⟨he, bel⟩ => ?_
  subst he
  exact ⟨_, rfl, _, _, _, [], _, [], hW', trodAll_mk1 (shut_bool Try.underlying4 _), (trodAll_cons_mk (shut_int Try.underlying3 w0) (trodAll_cons_mk (shut_bool Try.underlying4 _) (trodAll_cons_mk (Below.trod laidOut (by kernel_rfl) (of_decide_eq_true (by kernel_rfl)) k2 bel lt2) trodAll_mk0))), rfl, bel.frame _, fun h => by cases h⟩

theorem over : Rows.diskPlaysRow.holds Try.pinned (OpenSpec.ofChange Rows.diskPlaysSpec) :=
  OpenClaim.holds_of_wide 3 Try.f3 rfl rfl rfl rfl rfl rfl rfl ⟨rfl, rfl, rfl, rfl, rfl⟩ rfl rfl rfl rfl rfl (by kernel_rfl) Try.func3 (by kernel_rfl)
    (of_decide_eq_true (by kernel_rfl)) (by unfold Func.isWrapper; first | (rw [if_pos (by decide +kernel)]; kernel_rfl) | (rw [if_neg (by decide +kernel)]; exact ⟨rfl, rfl⟩))
    (fun os started H enc _ => lifted os started H enc)

theorem proved : Rows.DiskPlaysSaid := over
end Go.Proofs.Ytcoeodfcpnoboaa.diskPlays
