/-
  Proved: for every two slices of bytes and every bool the law DepsTexts returns true and leaves its inputs as they were; the card ties the three tables of the library that the row lists to the text of the program. No condition beyond the form itself (each text at most 2^47 - 4096 bytes; the listed tables start as that text lays them).
-/
import Derived.Test.YthcdbeggegmlmaaDoorDepsE
import Derived.Test.YthcdbeggegmlmaaDoorDepsK
import Derived.Test.YthcdbeggegmlmaaDoorDepsS
import Derived.Test.YthcdbeggegmlmaaDoorBox
import Derived.Test.YthcdbeggegmlmaaDoorTab
import Derived.Test.YthcdbeggegmlmaaDoorCards
import Derived.Test.YthcdbeggegmlmaaDoorTie
import Derived.Deep.DeepHandedRow
import Derived.LaidMore
import Derived.SevenTiedAt
import Derived.WalkKit
import Derived.ProofKit
import Derived.OpenShut
import Derived.ShutString
import Derived.SizedLaws
import Derived.ChangeOld
import Derived.Below
import Derived.Carry
import Derived.Lib.SmallJoins
import Derived.Deep.SlicePairs
import Derived.SliceStrings
import Derived.ChangeSlices
namespace Go.Proofs.YthcdbeggegmlmaaDoor.depsTexts
open Go.ChangeShapes Go.WideShapes Go.ChangeAt Go.RowKit Go.Joins Go.Deep
open Go.ChangeMaps (open_string shut_string)
set_option linter.unusedVariables false

theorem own : ownKnob Tryd.prog.godebug = none := by kernel_rfl
theorem laidOut : laidOutB Tryd.prog = true := by kernel_rfl

theorem few_facts {bs : List Nat} {z : List Dp.ID} (h : Dp.fewD (bs.take 20) = z) : Dp.IsSet z ∧ z.length ≤ 36 ∧ Dp.InR z ∧ (∀ x ∈ z, 0 ≤ x.1 ∧ 0 ≤ x.2) := by
  subst h
  refine ⟨Dp.few_set _, Dp.few_length _, fun x hx => ?_, fun x hx => ?_⟩
  · have := Dp.few_bd hx; omega
  · have := Dp.few_bd hx; omega

set_option maxRecDepth 100000 in
set_option maxHeartbeats 4000000 in
theorem walk (a0 : Option Addr) (len0 cap0 : Nat) (a1 : Option Addr) (len1 cap1 : Nat) (a2 : Bool) (w : World) (w0 : ∀ i, i < len0 → ∃ (x : Addr) (e0 : Int), a0 = some x ∧ x.block < w.heap.size ∧ w.cell? (x.add i) = some (.int .u8 e0) ∧ (Lit.int .u8 e0).wf = true) (l0 : len0 ≤ cap0) (m0 : cap0 ≤ maxLen) (w1 : ∀ i, i < len1 → ∃ (x : Addr) (e0 : Int), a1 = some x ∧ x.block < w.heap.size ∧ w.cell? (x.add i) = some (.int .u8 e0) ∧ (Lit.int .u8 e0).wf = true) (l1 : len1 ≤ cap1) (m1 : cap1 ≤ maxLen) (ht : Bl.Tab w) :
    Calls Tryd.prog 9 #[.slice a0 len0 cap0, .slice a1 len1 cap1, .bool a2] w fun e w' => e = .returned (.bool true) ∧ Below w.heap.size w w' := by
  obtain ⟨xs, rfl, hx⟩ := Dp.Bts.of w0
  obtain ⟨ys, rfl, hy⟩ := Dp.Bts.of w1
  have HX := Lib.hid hx
  have HY := Lib.hid hy
  clear w0 w1 hx hy
  obtain ⟨za, hza⟩ : ∃ za, Hid (Dp.fewD (xs.take 20) = za) := ⟨_, Lib.hid rfl⟩
  obtain ⟨zc, hzc⟩ : ∃ zc, Hid (Dp.fewD (ys.take 20) = zc) := ⟨_, Lib.hid rfl⟩
  obtain ⟨zb, ezb⟩ : ∃ zb, (if a2 then za else zc) = zb := ⟨_, rfl⟩
  have hzb : Hid (Dp.fewD ((if a2 then xs else ys).take 20) = zb) := Lib.hid (by rw [← ezb]; cases a2; exact hzc.out; exact hza.out)
  have FA := few_facts hza.out
  have FB := few_facts hzb.out
  have la := FA.2.1
  have lb := FB.2.1
  obtain ⟨ta, hta⟩ : ∃ t, Hid ((⟨(Dp.textD za).toArray⟩ : ByteArray) = t) := ⟨_, Lib.hid rfl⟩
  obtain ⟨tb, htb⟩ : ∃ t, Hid ((⟨(Dp.textD zb).toArray⟩ : ByteArray) = t) := ⟨_, Lib.hid rfl⟩
  obtain ⟨q, hq⟩ : ∃ q, Hid (decide (za = zb) = q) := ⟨_, Lib.hid rfl⟩
  have e1 : (ta.toList == tb.toList) = q := by
    rw [← hq.out, Bool.eq_iff_iff, beq_iff_eq, decide_eq_true_eq, ByteArray.toList_eq, ByteArray.toList_eq, ← hta.out, ← htb.out]
    constructor
    · intro h; exact Dp.text_inj _ _ FA.2.2.2 FB.2.2.2 (by simpa using h)
    · rintro rfl; rfl
  have e2 : (ta.toList == []) = ((za.length : Int) == 0) := by
    rw [Bool.eq_iff_iff, beq_iff_eq, beq_iff_eq, ByteArray.toList_eq, ← hta.out]
    have := Dp.text_nil za
    constructor
    · intro h
      have : za = [] := this.1 (by simpa using h)
      rw [this]; rfl
    · intro h
      have h2 : za = [] := List.eq_nil_of_length_eq_zero (by omega)
      have := this.2 h2
      simpa using this
  have RA := Lib.hid FA.2.2.1
  have RB := Lib.hid FB.2.2.1
  have HT := Lib.hid ht
  clear FA FB ht
  go_enter Tryd.func9, Tryd.ntmps9
  go_wp2_with fail
  refine (Dp.examples_any w HT.out).mono ?_
  rintro e v1 ⟨rfl, hb⟩
  have B1 := Lib.hid hb
  clear hb
  go_wp2_with fail
  refine (Dp.few_any xs za hza.out a0 cap0 l0 m0 v1 (HX.out.kept B1.out)).mono ?_
  rintro e v2 ⟨pa, ca, rfl, ia, hb⟩
  have B2 := Lib.hid (B1.out.trans (hb.mono B1.out.size))
  have IA2 := Lib.hid ia
  clear hb ia B1
  go_wp2_with fail
  refine (Dp.few_any ys zc hzc.out a1 cap1 l1 m1 v2 (HY.out.kept B2.out)).mono ?_
  rintro e v3 ⟨pb, cb, rfl, ib, hb⟩
  have B3 := Lib.hid (B2.out.trans (hb.mono B2.out.size))
  have IA3 := Lib.hid (IA2.out.kept hb)
  have IB3 := Lib.hid ib
  clear hb ib B2 IA2
  cases a2 with
  | false =>
    obtain rfl : zc = zb := ezb
    go_wp2_with fail
    refine (Dp.equal_any _ _ q (by first | exact hq.out | simpa using hq.out) pa pb ca cb v3 IA3.out.toIds IB3.out.toIds).mono ?_
    rintro e v5 ⟨rfl, hb⟩
    have B5 := Lib.hid (B3.out.trans (hb.mono B3.out.size))
    have IA5 := Lib.hid (IA3.out.kept hb)
    have IB5 := Lib.hid (IB3.out.kept hb)
    clear hb
    go_wp2_with fail
    refine (Dp.text_any _ ta hta.out RA.out (by omega) pa ca v5 IA5.out.toIds (HT.out.over B5.out)).mono ?_
    rintro e v6 ⟨rfl, hb⟩
    have B6 := Lib.hid (B5.out.trans (hb.mono B5.out.size))
    have IA6 := Lib.hid (IA5.out.kept hb)
    have IB6 := Lib.hid (IB5.out.kept hb)
    clear hb
    go_wp2_with fail
    refine (Dp.text_any _ tb htb.out RB.out (by omega) pb cb v6 IB6.out.toIds (HT.out.over B6.out)).mono ?_
    rintro e v7 ⟨rfl, hb⟩
    have B7 := Lib.hid (B6.out.trans (hb.mono B6.out.size))
    have IA7 := Lib.hid (IA6.out.kept hb)
    clear hb
    go_wp2_with fail
    refine (Dp.text_any _ ta hta.out RA.out (by omega) pa ca v7 IA7.out.toIds (HT.out.over B7.out)).mono ?_
    rintro e v8 ⟨rfl, hb⟩
    have B8 := Lib.hid (B7.out.trans (hb.mono B7.out.size))
    clear hb
    go_wp2
    go_ret
    exact ⟨rfl, B8.out⟩
  | true =>
    obtain rfl : za = zb := ezb
    go_wp2_with fail
    refine (Dp.few_any xs za hza.out a0 cap0 l0 m0 v3 (HX.out.kept B3.out)).mono ?_
    rintro e v4 ⟨pd, cd, rfl, id4, hb⟩
    have B4 := Lib.hid (B3.out.trans (hb.mono B3.out.size))
    have IA4 := Lib.hid (IA3.out.kept hb)
    have ID4 := Lib.hid id4
    clear hb id4 B3 IA3 IB3
    go_wp2_with fail
    refine (Dp.equal_any _ _ q (by first | exact hq.out | simpa using hq.out) pa pd ca cd v4 IA4.out.toIds ID4.out.toIds).mono ?_
    rintro e v5 ⟨rfl, hb⟩
    have B5 := Lib.hid (B4.out.trans (hb.mono B4.out.size))
    have IA5 := Lib.hid (IA4.out.kept hb)
    have IB5 := Lib.hid (ID4.out.kept hb)
    clear hb
    go_wp2_with fail
    refine (Dp.text_any _ ta hta.out RA.out (by omega) pa ca v5 IA5.out.toIds (HT.out.over B5.out)).mono ?_
    rintro e v6 ⟨rfl, hb⟩
    have B6 := Lib.hid (B5.out.trans (hb.mono B5.out.size))
    have IA6 := Lib.hid (IA5.out.kept hb)
    have IB6 := Lib.hid (IB5.out.kept hb)
    clear hb
    go_wp2_with fail
    refine (Dp.text_any _ tb htb.out RB.out (by omega) pd cd v6 IB6.out.toIds (HT.out.over B6.out)).mono ?_
    rintro e v7 ⟨rfl, hb⟩
    have B7 := Lib.hid (B6.out.trans (hb.mono B6.out.size))
    have IA7 := Lib.hid (IA6.out.kept hb)
    clear hb
    go_wp2_with fail
    refine (Dp.text_any _ ta hta.out RA.out (by omega) pa ca v7 IA7.out.toIds (HT.out.over B7.out)).mono ?_
    rintro e v8 ⟨rfl, hb⟩
    have B8 := Lib.hid (B7.out.trans (hb.mono B7.out.size))
    clear hb
    go_wp2
    go_ret
    exact ⟨rfl, B8.out⟩

theorem laid_met (os : Os) : laidMet Tryd.prog Rows.depsTextsRow.laid ((World.doorLaid Tryd.prog 24 os).forCall (fun _ _ => 0) ⟨#[], #[.slice none 0 0, .slice none 0 0, .bool false], []⟩).memory :=
  laidMet_of_run' 8 (by kernel_rfl) (by kernel_rfl)
theorem reads (os : Os) {H : Type} (enc : TypeId × Value → H) : ∃ places, DataW.whole enc Tryd.prog ((World.doorLaid Tryd.prog 24 os).forCall (fun _ _ => 0) ⟨#[], #[.slice none 0 0, .slice none 0 0, .bool false], []⟩).memory Tryd.f9.params.toList Rows.depsTextsSpec.vars false (#[.slice none 0 0, .slice none 0 0, .bool false] : Array Value).toList 8 = some ([.nil, .nil, .lit (.bool false)], [], places) :=
  ⟨[], by kernel_rfl⟩

set_option maxRecDepth 100000 in
theorem lifted (os : Os) (started : os.Started) (H : Type) (enc : TypeId × Value → H) (F : Stop.Interp) :
    ReturnsInHanded {} Tryd.checked os 9 .any ((OpenSpec.ofChange Rows.depsTextsSpec).preRow enc Tryd.prog Tryd.f9 Rows.depsTextsRow.domain false Rows.depsTextsRow.laid) (((OpenSpec.ofChange Rows.depsTextsSpec).at F).post enc Tryd.prog Tryd.f9 false true false false) := by
  obtain ⟨places, hx⟩ := reads os enc
  refine returnsInHanded_of_row (C := Tryd.checked) (s := OpenSpec.ofChange Rows.depsTextsSpec) own started (by kernel_rfl) Tryd.func9
    (witness_row_at (enc := enc) (C := Tryd.checked) false (World.doorLaid Tryd.prog 24 os) #[.slice none 0 0, .slice none 0 0, .bool false] rfl (by kernel_rfl) (by kernel_rfl) (by kernel_rfl)
      (OpenSpec.preRow_of_cond 8 hx (by kernel_rfl) (fun k hk => by cases hk) (by kernel_rfl) (laid_met os))) ?_
  intro W base args ds gs before hval0 hW _ _ hsz0 hL _ _
  have hval : ∀ (j : Nat) t v, Tryd.f9.params[j]? = some t → args[j]? = some v → Value.okWide Tryd.prog W .any base t v := hval0
  have hsz : (DataW.weightsEach Tryd.prog (Tryd.f9.params.toList ++ Rows.depsTextsSpec.plain.varTypes Tryd.prog) (ds ++ gs)).all (· ≤ reachBytes) = true := hsz0
  have hW' := hW
  obtain ⟨p, q, hA0, hV, rfl, hfz, hnd⟩ := hW
  have hA : DataW.TrodAll enc Tryd.prog W 0 (fun _ => true) true Tryd.f9.params.toList args.toList ds p := hA0
  rw [Tryd.params9] at hA hval hsz
  obtain ⟨v0, vs0, d0, ds0, p0, q0, hargs, rfl, rfl, h0, r0⟩ := trodAll_cons hA
  obtain ⟨v1, vs1, d1, ds1, p1, q1, rfl, rfl, rfl, h1, r1⟩ := trodAll_cons r0
  obtain ⟨v2, vs2, d2, ds2, p2, q2, rfl, rfl, rfl, h2, r2⟩ := trodAll_cons r1
  obtain ⟨rfl, rfl, rfl⟩ := trodAll_nil r2
  obtain rfl : args = #[v0, v1, v2] := by cases args; simp_all
  obtain ⟨rfl, rfl⟩ := trodVars_none hV
  have k0 := h0
  have lt0 : ∀ x ∈ p0, x.block < W.heap.size := by obtain ⟨m, hm⟩ := k0; exact DataW.trod_lt m _ _ _ hm
  have k1 := h1
  have lt1 : ∀ x ∈ p1, x.block < W.heap.size := by obtain ⟨m, hm⟩ := k1; exact DataW.trod_lt m _ _ _ hm
  obtain ⟨a0, len0, cap0, rfl⟩ := okWide_slice Tryd.underlying22 (hval 0 22 v0 rfl rfl)
  obtain ⟨a1, len1, cap1, rfl⟩ := okWide_slice Tryd.underlying22 (hval 1 22 v1 rfl rfl)
  obtain ⟨a2, rfl, rfl, rfl⟩ := open_bool Tryd.underlying4 (hval 2 4 v2 rfl rfl) h2
  clear hA0 hval0
  have b0 : (∀ i, i < len0 → ∃ (x : Addr) (e0 : Int), a0 = some x ∧ x.block < W.heap.size ∧ W.cell? (x.add i) = some (.int .u8 e0) ∧ (Lit.int .u8 e0).wf = true) ∧ len0 ≤ cap0 ∧ cap0 ≤ maxLen := by
    obtain ⟨fuel, hf⟩ := h0
    rcases open_ints Tryd.underlying22 Tryd.underlying5 (by kernel_rfl) hf with ⟨hcs, _⟩ | ⟨x, l, c, zs, hcs, _, hl, hm, hsl, _, hel, hwf⟩
    · simp [Value.cells] at hcs
      obtain ⟨rfl, rfl, rfl⟩ := hcs
      exact ⟨fun i hi => absurd hi (by omega), Nat.le_refl _, Nat.zero_le _⟩
    · simp [Value.cells] at hcs
      obtain ⟨rfl, rfl, rfl⟩ := hcs
      refine ⟨fun i hi => ?_, hl, hm⟩
      have hi' : i < zs.length := by rw [hsl]; split <;> omega
      have c0 := hel i hi'
      have hb := World.block_lt_of_cell? _ _ c0
      rw [Pk.block_add] at hb
      exact ⟨x, _, rfl, hb, c0, hwf _ (by rw [List.getD_eq_getElem?_getD, List.getElem?_eq_getElem hi']; exact List.getElem_mem hi')⟩
  obtain ⟨w0, l0, m0⟩ := b0
  have b1 : (∀ i, i < len1 → ∃ (x : Addr) (e0 : Int), a1 = some x ∧ x.block < W.heap.size ∧ W.cell? (x.add i) = some (.int .u8 e0) ∧ (Lit.int .u8 e0).wf = true) ∧ len1 ≤ cap1 ∧ cap1 ≤ maxLen := by
    obtain ⟨fuel, hf⟩ := h1
    rcases open_ints Tryd.underlying22 Tryd.underlying5 (by kernel_rfl) hf with ⟨hcs, _⟩ | ⟨x, l, c, zs, hcs, _, hl, hm, hsl, _, hel, hwf⟩
    · simp [Value.cells] at hcs
      obtain ⟨rfl, rfl, rfl⟩ := hcs
      exact ⟨fun i hi => absurd hi (by omega), Nat.le_refl _, Nat.zero_le _⟩
    · simp [Value.cells] at hcs
      obtain ⟨rfl, rfl, rfl⟩ := hcs
      refine ⟨fun i hi => ?_, hl, hm⟩
      have hi' : i < zs.length := by rw [hsl]; split <;> omega
      have c0 := hel i hi'
      have hb := World.block_lt_of_cell? _ _ c0
      rw [Pk.block_add] at hb
      exact ⟨x, _, rfl, hb, c0, hwf _ (by rw [List.getD_eq_getElem?_getD, List.getElem?_eq_getElem hi']; exact List.getElem_mem hi')⟩
  obtain ⟨w1, l1, m1⟩ := b1
  refine (walk a0 len0 cap0 a1 len1 cap1 a2 W w0 l0 m0 w1 l1 m1 (Bl.tab_of hL)).mono fun e W' ⟨he, bel⟩ => ?_
  subst he
  exact ⟨_, rfl, _, _, _, [], _, [], hW', trodAll_mk1 (shut_bool Tryd.underlying4 _), (trodAll_cons_mk (Below.trod laidOut (by kernel_rfl) (of_decide_eq_true (by kernel_rfl)) k0 bel lt0) (trodAll_cons_mk (Below.trod laidOut (by kernel_rfl) (of_decide_eq_true (by kernel_rfl)) k1 bel lt1) (trodAll_cons_mk (shut_bool Tryd.underlying4 _) trodAll_mk0))), rfl, bel.frame _, fun h => by cases h⟩

theorem over : Rows.depsTextsRow.holds Tryd.pinned (OpenSpec.ofChange Rows.depsTextsSpec) :=
  OpenClaim.holds_of_cond 9 Tryd.f9 rfl rfl rfl rfl rfl rfl rfl ⟨rfl, rfl, rfl, rfl, rfl⟩ rfl rfl rfl rfl rfl (by kernel_rfl) Tryd.func9 (by kernel_rfl)
    (of_decide_eq_true (by kernel_rfl)) (by unfold Func.isWrapper; first | (rw [if_pos (by decide +kernel)]; kernel_rfl) | (rw [if_neg (by decide +kernel)]; exact ⟨rfl, rfl⟩))
    (fun os started H enc _ F => by rw [OpenClaim.pre_eq_preRow]; exact lifted os started H enc F)

/-- No parameter wants a stand-in. -/
theorem plain (f : FuncId) (fn : Func) (hf : Tryd.pinned.checked.prog.funcNamed "comitia/comitialaw08.DepsTexts" = some f) (hfn : Tryd.pinned.checked.prog.funcs[f]? = some fn) :
    false = Tryd.pinned.checked.prog.looks [] ∧ ∀ (j : Nat) t, fn.params[j]? = some t → Tryd.pinned.checked.prog.wantsStandIn t = false := by
  obtain rfl : f = 9 := Option.some.inj ((show Tryd.prog.funcNamed "comitia/comitialaw08.DepsTexts" = some 9 by kernel_rfl).symm.trans hf) |>.symm
  obtain rfl : fn = Tryd.f9 := (Option.some.inj (Tryd.func9.symm.trans hfn)).symm
  refine ⟨by kernel_rfl, fun j t ht => ?_⟩
  rw [Tryd.params9] at ht
  have hm : t ∈ [22, 22, 4] := by simpa using Array.mem_of_getElem? ht
  have hall : ([22, 22, 4].all fun u => !Tryd.prog.wantsStandIn u) = true := by kernel_rfl
  exact (show Tryd.prog.wantsStandIn t = false by simpa using List.all_eq_true.1 hall t hm)

theorem proved : Rows.DepsTextsCardSaid :=
  Claim7.holds_tied_plain_at .later [] _ _ _ _ over (fun _ h => by cases h) (by kernel_rfl) (fun _ h => by cases h) depsTexts_row_tie rfl ⟨rfl, rfl⟩ (by kernel_rfl) rfl plain (by kernel_rfl)
end Go.Proofs.YthcdbeggegmlmaaDoor.depsTexts
