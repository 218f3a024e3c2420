/-
  Proved: for every slice of bytes, text, flags, place and byte the law DepsGets returns true and leaves its inputs as they were; the card ties the three tables of the library that the row lists to the text of the program. No condition beyond the form itself (each text at most 2^47 - 4096 bytes; the listed tables start as that text lays them).
-/
import Derived.Test.YthcdbeggegmlmaaDoorDepsE
import Derived.Test.YthcdbeggegmlmaaDoorDepsK
import Derived.Test.YthcdbeggegmlmaaDoorDepsS
import Derived.Test.YthcdbeggegmlmaaDoorDepsH
import Derived.Test.YthcdbeggegmlmaaDoorDepsQ
import Derived.Test.YthcdbeggegmlmaaDoorDepsD
import Derived.Test.YthcdbeggegmlmaaDoorBox
import Derived.Test.YthcdbeggegmlmaaDoorTab
import Derived.Test.YthcdbeggegmlmaaDoorPair
import Derived.Test.YthcdbeggegmlmaaDoorCards
import Derived.Test.YthcdbeggegmlmaaDoorTie
import Derived.Deep.DeepHandedRow
import Derived.LaidMore
import Derived.SevenTiedAt
import Derived.WalkKit
import Derived.ProofKit
import Derived.OpenShut
import Derived.ShutString
import Derived.SizedLaws
import Derived.ChangeOld
import Derived.Below
import Derived.Carry
import Derived.Lib.SmallJoins
import Derived.Deep.SlicePairs
import Derived.SliceStrings
import Derived.ChangeSlices
namespace Go.Proofs.YthcdbeggegmlmaaDoor.depsGets
open Go.ChangeShapes Go.WideShapes Go.ChangeAt Go.RowKit Go.Joins Go.Deep
open Go.ChangeMaps (open_string shut_string)
set_option linter.unusedVariables false

theorem own : ownKnob Tryd.prog.godebug = none := by kernel_rfl
theorem laidOut : laidOutB Tryd.prog = true := by kernel_rfl

theorem few_facts {bs : List Nat} {z : List Dp.ID} (h : Dp.fewD (bs.take 20) = z) : Dp.IsSet z ∧ z.length ≤ 36 ∧ Dp.InR z ∧ (∀ x ∈ z, 0 ≤ x.1 ∧ 0 ≤ x.2) := by
  subst h
  refine ⟨Dp.few_set _, Dp.few_length _, fun x hx => ?_, fun x hx => ?_⟩
  · have := Dp.few_bd hx; omega
  · have := Dp.few_bd hx; omega

set_option maxRecDepth 100000 in
set_option maxHeartbeats 4000000 in
theorem walk (a0 : Option Addr) (len0 cap0 : Nat) (a1 : ByteArray) (a2 : Bool) (a3 : Int) (a4 : Int) (a5 : Bool) (w : World) (w0 : ∀ i, i < len0 → ∃ (x : Addr) (e0 : Int), a0 = some x ∧ x.block < w.heap.size ∧ w.cell? (x.add i) = some (.int .u8 e0) ∧ (Lit.int .u8 e0).wf = true) (l0 : len0 ≤ cap0) (m0 : cap0 ≤ maxLen) (z1 : a1.size ≤ 140737488351232) (w3 : (Lit.int .i64 a3).wf = true) (w4 : (Lit.int .u8 a4).wf = true) (ht : Bl.Tab w) :
    Calls Tryd.prog 4 #[.slice a0 len0 cap0, .string a1, .bool a2, .int .i64 a3, .int .u8 a4, .bool a5] w fun e w' => e = .returned (.bool true) ∧ Below w.heap.size w w' := by
  obtain ⟨xs, rfl, hx⟩ := Dp.Bts.of w0
  have HX := Lib.hid hx
  have q3 : -9223372036854775808 ≤ a3 ∧ a3 ≤ 9223372036854775807 := by simpa [Lit.wf, IntKind.min, IntKind.max, IntKind.signed, IntKind.bits] using w3
  have q4 : 0 ≤ a4 ∧ a4 ≤ 255 := by simpa [Lit.wf, IntKind.min, IntKind.max, IntKind.signed, IntKind.bits] using w4
  obtain ⟨by4, rfl⟩ := Int.eq_ofNat_of_zero_le q4.1
  have hby : by4 < 256 := by omega
  obtain ⟨za, hza⟩ : ∃ za, Hid (Dp.fewD (xs.take 20) = za) := ⟨_, Lib.hid rfl⟩
  have FA := few_facts hza.out
  obtain ⟨s, ok, hs⟩ : ∃ s ok, Dp.putD za = (s, ok) := ⟨_, _, rfl⟩
  have hs3 : s.size ≤ 1602 := by
    rcases Dp.putD_way _ _ _ hs with ⟨_, h2, rfl, _⟩ | ⟨_, _, rfl⟩
    · have := (Dp.putD_size za s hs).1; omega
    · show 0 ≤ 1602; omega
  have hsum : (s.size : Int) + (a1.size : Int) ≤ 9223372036854775807 := by omega
  have hsum2 : ¬ 9223372036854775807 < s.size + a1.size := by omega
  obtain ⟨u, eu⟩ : ∃ u, s ++ a1 = u := ⟨_, rfl⟩
  have hus : u.size = s.size + a1.size := by rw [← eu, Pk.cat_size]
  have hu2 : u.size ≤ 281474976710656 := by omega
  have HS := Lib.hid hs
  have HT := Lib.hid ht
  have LA := Lib.hid FA.2.1
  have HU := Lib.hid hus
  clear FA ht hs w0 w3 w4 hx q4 hus
  go_enter Tryd.func4, Tryd.ntmps4
  go_wp2_with fail
  refine (Dp.examples_any w HT.out).mono ?_
  rintro e v1 ⟨rfl, hb⟩
  have B1 := Lib.hid hb
  clear hb
  cases a2 with
  | false =>
    have hY : a1.size ≤ maxLen := by unfold maxLen; omega
    obtain ⟨l, t, c, hg⟩ := Dp.triple (Dp.getD a1 a5)
    have G := Lib.hid hg
    clear hg
    go_wp2_with fail
    refine (Dp.get_any a1 a5 l t c G.out hY v1).mono ?_
    rintro e v11 ⟨pb, cb, rfl, ib, hb⟩
    have B11 := Lib.hid (B1.out.trans (hb.mono B1.out.size))
    have IB11 := Lib.hid ib
    clear hb ib
    go_wp2_with fail
    have hb := Rw.below_1 v11 (.cells #[.string t, .bool c] 51)
    have B12 := Lib.hid (B11.out.trans (hb.mono B11.out.size))
    have IB12 := Lib.hid (IB11.out.kept hb)
    have P12 := Lib.hid (Bl.Pair.new v11 (.string t) (.bool c) 51)
    generalize v11.alloc (.cells #[.string t, .bool c] 51) = v12 at *
    generalize v11.heap.size = g12 at *
    clear hb B11 IB11
    refine (Dp.refget_any a1 a5 l t c G.out hY v12).mono ?_
    rintro e v13 ⟨pc, cc, rfl, ic, hb⟩
    have B13 := Lib.hid (B12.out.trans (hb.mono B12.out.size))
    have IB13 := Lib.hid (IB12.out.kept hb)
    have P13 := Lib.hid (P12.out.over hb)
    have IC13 := Lib.hid ic
    clear hb ic B12 IB12 P12
    go_wp2_with fail
    have hb := Rw.below_1 v13 (.cells #[.string t, .bool c] 54)
    have B14 := Lib.hid (B13.out.trans (hb.mono B13.out.size))
    have IB14 := Lib.hid (IB13.out.kept hb)
    have IC14 := Lib.hid (IC13.out.kept hb)
    have P14 := Lib.hid (P13.out.over hb)
    have Q14 := Lib.hid (Bl.Pair.new v13 (.string t) (.bool c) 54)
    generalize v13.alloc (.cells #[.string t, .bool c] 54) = v14 at *
    generalize v13.heap.size = g14 at *
    clear hb B13 IB13 IC13 P13
    refine (Dp.alike_any l l true (decide_eq_true rfl) pb pc cb cc v14 IB14.out.toIds IC14.out.toIds).mono ?_
    rintro e v15 ⟨rfl, hb⟩
    have B15 := Lib.hid (B14.out.trans (hb.mono B14.out.size))
    have ⟨M0, M1, M2, M3, M4⟩ := P14.out.over hb
    have ⟨N0, N1, N2, N3, N4⟩ := Q14.out.over hb
    clear hb B14 P14 Q14
    go_wp2
    go_ret
    exact ⟨rfl, B15.out⟩
  | true =>
    go_wp2_with fail
    refine (Dp.few_any xs za hza.out a0 cap0 l0 m0 v1 (HX.out.kept B1.out)).mono ?_
    rintro e v2 ⟨pa, ca, rfl, ia, hb⟩
    have B2 := Lib.hid (B1.out.trans (hb.mono B1.out.size))
    have IA2 := Lib.hid ia
    clear hb ia B1
    go_wp2_with fail
    refine (Dp.refset_of za pa ca (by have := LA.out; omega) v2 IA2.out.toIds).mono ?_
    rintro e v3 ⟨pr, cr, rfl, ir, hb⟩
    have B3 := Lib.hid (B2.out.trans (hb.mono B2.out.size))
    have IR3 := Lib.hid ir
    clear hb ir B2 IA2
    go_wp2_with fail
    refine (Dp.refputset_any za s ok HS.out pr cr v3 IR3.out.toIds).mono ?_
    rintro e v4 ⟨rfl, hb⟩
    have B4 := Lib.hid (B3.out.trans (hb.mono B3.out.size))
    clear hb B3 IR3
    go_wp2_with fail
    refine (Dp.bend_any u a3 by4 hby q3 hu2 v4).mono ?_
    rintro e v5 ⟨y, rfl, hys, hb⟩
    have B5 := Lib.hid (B4.out.trans (hb.mono B4.out.size))
    have hY : y.size ≤ maxLen := by rw [hys]; unfold maxLen; omega
    clear hb B4 hys
    obtain ⟨l, t, c, hg⟩ := Dp.triple (Dp.getD y a5)
    have G := Lib.hid hg
    clear hg
    go_wp2_with fail
    refine (Dp.get_any y a5 l t c G.out hY v5).mono ?_
    rintro e v11 ⟨pb, cb, rfl, ib, hb⟩
    have B11 := Lib.hid (B5.out.trans (hb.mono B5.out.size))
    have IB11 := Lib.hid ib
    clear hb ib
    go_wp2_with fail
    have hb := Rw.below_1 v11 (.cells #[.string t, .bool c] 51)
    have B12 := Lib.hid (B11.out.trans (hb.mono B11.out.size))
    have IB12 := Lib.hid (IB11.out.kept hb)
    have P12 := Lib.hid (Bl.Pair.new v11 (.string t) (.bool c) 51)
    generalize v11.alloc (.cells #[.string t, .bool c] 51) = v12 at *
    generalize v11.heap.size = g12 at *
    clear hb B11 IB11
    refine (Dp.refget_any y a5 l t c G.out hY v12).mono ?_
    rintro e v13 ⟨pc, cc, rfl, ic, hb⟩
    have B13 := Lib.hid (B12.out.trans (hb.mono B12.out.size))
    have IB13 := Lib.hid (IB12.out.kept hb)
    have P13 := Lib.hid (P12.out.over hb)
    have IC13 := Lib.hid ic
    clear hb ic B12 IB12 P12
    go_wp2_with fail
    have hb := Rw.below_1 v13 (.cells #[.string t, .bool c] 54)
    have B14 := Lib.hid (B13.out.trans (hb.mono B13.out.size))
    have IB14 := Lib.hid (IB13.out.kept hb)
    have IC14 := Lib.hid (IC13.out.kept hb)
    have P14 := Lib.hid (P13.out.over hb)
    have Q14 := Lib.hid (Bl.Pair.new v13 (.string t) (.bool c) 54)
    generalize v13.alloc (.cells #[.string t, .bool c] 54) = v14 at *
    generalize v13.heap.size = g14 at *
    clear hb B13 IB13 IC13 P13
    refine (Dp.alike_any l l true (decide_eq_true rfl) pb pc cb cc v14 IB14.out.toIds IC14.out.toIds).mono ?_
    rintro e v15 ⟨rfl, hb⟩
    have B15 := Lib.hid (B14.out.trans (hb.mono B14.out.size))
    have ⟨M0, M1, M2, M3, M4⟩ := P14.out.over hb
    have ⟨N0, N1, N2, N3, N4⟩ := Q14.out.over hb
    clear hb B14 P14 Q14
    go_wp2
    go_ret
    exact ⟨rfl, B15.out⟩

theorem laid_met (os : Os) : laidMet Tryd.prog Rows.depsGetsRow.laid ((World.doorLaid Tryd.prog 24 os).forCall (fun _ _ => 0) ⟨#[], #[.slice none 0 0, .string ByteArray.empty, .bool false, .int .i64 0, .int .u8 0, .bool false], []⟩).memory :=
  laidMet_of_run' 8 (by kernel_rfl) (by kernel_rfl)
theorem reads (os : Os) {H : Type} (enc : TypeId × Value → H) : ∃ places, DataW.whole enc Tryd.prog ((World.doorLaid Tryd.prog 24 os).forCall (fun _ _ => 0) ⟨#[], #[.slice none 0 0, .string ByteArray.empty, .bool false, .int .i64 0, .int .u8 0, .bool false], []⟩).memory Tryd.f4.params.toList Rows.depsGetsSpec.vars false (#[.slice none 0 0, .string ByteArray.empty, .bool false, .int .i64 0, .int .u8 0, .bool false] : Array Value).toList 8 = some ([.nil, .lit (.string []), .lit (.bool false), .lit (.int .i64 0), .lit (.int .u8 0), .lit (.bool false)], [], places) :=
  ⟨[], by kernel_rfl⟩

set_option maxRecDepth 100000 in
theorem lifted (os : Os) (started : os.Started) (H : Type) (enc : TypeId × Value → H) (F : Stop.Interp) :
    ReturnsInHanded {} Tryd.checked os 4 .any ((OpenSpec.ofChange Rows.depsGetsSpec).preRow enc Tryd.prog Tryd.f4 Rows.depsGetsRow.domain false Rows.depsGetsRow.laid) (((OpenSpec.ofChange Rows.depsGetsSpec).at F).post enc Tryd.prog Tryd.f4 false true false false) := by
  obtain ⟨places, hx⟩ := reads os enc
  refine returnsInHanded_of_row (C := Tryd.checked) (s := OpenSpec.ofChange Rows.depsGetsSpec) own started (by kernel_rfl) Tryd.func4
    (witness_row_at (enc := enc) (C := Tryd.checked) false (World.doorLaid Tryd.prog 24 os) #[.slice none 0 0, .string ByteArray.empty, .bool false, .int .i64 0, .int .u8 0, .bool false] rfl (by kernel_rfl) (by kernel_rfl) (by kernel_rfl)
      (OpenSpec.preRow_of_cond 8 hx (by kernel_rfl) (fun k hk => by cases hk) (by kernel_rfl) (laid_met os))) ?_
  intro W base args ds gs before hval0 hW _ _ hsz0 hL _ _
  have hval : ∀ (j : Nat) t v, Tryd.f4.params[j]? = some t → args[j]? = some v → Value.okWide Tryd.prog W .any base t v := hval0
  have hsz : (DataW.weightsEach Tryd.prog (Tryd.f4.params.toList ++ Rows.depsGetsSpec.plain.varTypes Tryd.prog) (ds ++ gs)).all (· ≤ reachBytes) = true := hsz0
  have hW' := hW
  obtain ⟨p, q, hA0, hV, rfl, hfz, hnd⟩ := hW
  have hA : DataW.TrodAll enc Tryd.prog W 0 (fun _ => true) true Tryd.f4.params.toList args.toList ds p := hA0
  rw [Tryd.params4] at hA hval hsz
  obtain ⟨v0, vs0, d0, ds0, p0, q0, hargs, rfl, rfl, h0, r0⟩ := trodAll_cons hA
  obtain ⟨v1, vs1, d1, ds1, p1, q1, rfl, rfl, rfl, h1, r1⟩ := trodAll_cons r0
  obtain ⟨v2, vs2, d2, ds2, p2, q2, rfl, rfl, rfl, h2, r2⟩ := trodAll_cons r1
  obtain ⟨v3, vs3, d3, ds3, p3, q3, rfl, rfl, rfl, h3, r3⟩ := trodAll_cons r2
  obtain ⟨v4, vs4, d4, ds4, p4, q4, rfl, rfl, rfl, h4, r4⟩ := trodAll_cons r3
  obtain ⟨v5, vs5, d5, ds5, p5, q5, rfl, rfl, rfl, h5, r5⟩ := trodAll_cons r4
  obtain ⟨rfl, rfl, rfl⟩ := trodAll_nil r5
  obtain rfl : args = #[v0, v1, v2, v3, v4, v5] := by cases args; simp_all
  obtain ⟨rfl, rfl⟩ := trodVars_none hV
  have k0 := h0
  have lt0 : ∀ x ∈ p0, x.block < W.heap.size := by obtain ⟨m, hm⟩ := k0; exact DataW.trod_lt m _ _ _ hm
  obtain ⟨a0, len0, cap0, rfl⟩ := okWide_slice Tryd.underlying22 (hval 0 22 v0 rfl rfl)
  obtain ⟨a1, rfl, rfl, rfl, w1⟩ := open_string Tryd.underlying9 (hval 1 9 v1 rfl rfl) h1
  obtain ⟨a2, rfl, rfl, rfl⟩ := open_bool Tryd.underlying4 (hval 2 4 v2 rfl rfl) h2
  obtain ⟨a3, rfl, rfl, rfl, w3⟩ := open_int Tryd.underlying3 (hval 3 3 v3 rfl rfl) h3
  obtain ⟨a4, rfl, rfl, rfl, w4⟩ := open_int Tryd.underlying5 (hval 4 5 v4 rfl rfl) h4
  obtain ⟨a5, rfl, rfl, rfl⟩ := open_bool Tryd.underlying4 (hval 5 4 v5 rfl rfl) h5
  clear hA0 hval0
  have b0 : (∀ i, i < len0 → ∃ (x : Addr) (e0 : Int), a0 = some x ∧ x.block < W.heap.size ∧ W.cell? (x.add i) = some (.int .u8 e0) ∧ (Lit.int .u8 e0).wf = true) ∧ len0 ≤ cap0 ∧ cap0 ≤ maxLen := by
    obtain ⟨fuel, hf⟩ := h0
    rcases open_ints Tryd.underlying22 Tryd.underlying5 (by kernel_rfl) hf with ⟨hcs, _⟩ | ⟨x, l, c, zs, hcs, _, hl, hm, hsl, _, hel, hwf⟩
    · simp [Value.cells] at hcs
      obtain ⟨rfl, rfl, rfl⟩ := hcs
      exact ⟨fun i hi => absurd hi (by omega), Nat.le_refl _, Nat.zero_le _⟩
    · simp [Value.cells] at hcs
      obtain ⟨rfl, rfl, rfl⟩ := hcs
      refine ⟨fun i hi => ?_, hl, hm⟩
      have hi' : i < zs.length := by rw [hsl]; split <;> omega
      have c0 := hel i hi'
      have hb := World.block_lt_of_cell? _ _ c0
      rw [Pk.block_add] at hb
      exact ⟨x, _, rfl, hb, c0, hwf _ (by rw [List.getD_eq_getElem?_getD, List.getElem?_eq_getElem hi']; exact List.getElem_mem hi')⟩
  obtain ⟨w0, l0, m0⟩ := b0
  have z1 : a1.size ≤ 140737488351232 := by
    have := sized_string hsz (j := 1) (t := 9) rfl rfl
    simp only [Array.length_toList, reachBytes] at this
    exact this
  refine (walk a0 len0 cap0 a1 a2 a3 a4 a5 W w0 l0 m0 z1 w3 w4 (Bl.tab_of hL)).mono fun e W' ⟨he, bel⟩ => ?_
  subst he
  exact ⟨_, rfl, _, _, _, [], _, [], hW', trodAll_mk1 (shut_bool Tryd.underlying4 _), (trodAll_cons_mk (Below.trod laidOut (by kernel_rfl) (of_decide_eq_true (by kernel_rfl)) k0 bel lt0) (trodAll_cons_mk (shut_string Tryd.underlying9 w1) (trodAll_cons_mk (shut_bool Tryd.underlying4 _) (trodAll_cons_mk (shut_int Tryd.underlying3 w3) (trodAll_cons_mk (shut_int Tryd.underlying5 w4) (trodAll_cons_mk (shut_bool Tryd.underlying4 _) trodAll_mk0)))))), rfl, bel.frame _, fun h => by cases h⟩

theorem over : Rows.depsGetsRow.holds Tryd.pinned (OpenSpec.ofChange Rows.depsGetsSpec) :=
  OpenClaim.holds_of_cond 4 Tryd.f4 rfl rfl rfl rfl rfl rfl rfl ⟨rfl, rfl, rfl, rfl, rfl⟩ rfl rfl rfl rfl rfl (by kernel_rfl) Tryd.func4 (by kernel_rfl)
    (of_decide_eq_true (by kernel_rfl)) (by unfold Func.isWrapper; first | (rw [if_pos (by decide +kernel)]; kernel_rfl) | (rw [if_neg (by decide +kernel)]; exact ⟨rfl, rfl⟩))
    (fun os started H enc _ F => by rw [OpenClaim.pre_eq_preRow]; exact lifted os started H enc F)

/-- No parameter wants a stand-in. -/
theorem plain (f : FuncId) (fn : Func) (hf : Tryd.pinned.checked.prog.funcNamed "comitia/comitialaw08.DepsGets" = some f) (hfn : Tryd.pinned.checked.prog.funcs[f]? = some fn) :
    false = Tryd.pinned.checked.prog.looks [] ∧ ∀ (j : Nat) t, fn.params[j]? = some t → Tryd.pinned.checked.prog.wantsStandIn t = false := by
  obtain rfl : f = 4 := Option.some.inj ((show Tryd.prog.funcNamed "comitia/comitialaw08.DepsGets" = some 4 by kernel_rfl).symm.trans hf) |>.symm
  obtain rfl : fn = Tryd.f4 := (Option.some.inj (Tryd.func4.symm.trans hfn)).symm
  refine ⟨by kernel_rfl, fun j t ht => ?_⟩
  rw [Tryd.params4] at ht
  have hm : t ∈ [22, 9, 4, 3, 5, 4] := by simpa using Array.mem_of_getElem? ht
  have hall : ([22, 9, 4, 3, 5, 4].all fun u => !Tryd.prog.wantsStandIn u) = true := by kernel_rfl
  exact (show Tryd.prog.wantsStandIn t = false by simpa using List.all_eq_true.1 hall t hm)

theorem proved : Rows.DepsGetsCardSaid :=
  Claim7.holds_tied_plain_at .later [] _ _ _ _ over (fun _ h => by cases h) (by kernel_rfl) (fun _ h => by cases h) depsGets_row_tie rfl ⟨rfl, rfl⟩ (by kernel_rfl) rfl plain (by kernel_rfl)
end Go.Proofs.YthcdbeggegmlmaaDoor.depsGets
