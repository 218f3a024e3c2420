/-
  Proved: for every slice of bytes, text and cut the law DepsBack returns true and leaves its inputs as they were; the card ties the three tables of the library that the row lists to the text of the program. No condition beyond the form itself (each text at most 2^47 - 4096 bytes; the listed tables start as that text lays them).
-/
import Derived.Test.YthcdbeggegmlmaaDoorDepsE
import Derived.Test.YthcdbeggegmlmaaDoorDepsK
import Derived.Test.YthcdbeggegmlmaaDoorDepsS
import Derived.Test.YthcdbeggegmlmaaDoorBox
import Derived.Test.YthcdbeggegmlmaaDoorTab
import Derived.Test.YthcdbeggegmlmaaDoorCards
import Derived.Test.YthcdbeggegmlmaaDoorTie
import Derived.Deep.DeepHandedRow
import Derived.LaidMore
import Derived.SevenTiedAt
import Derived.WalkKit
import Derived.ProofKit
import Derived.OpenShut
import Derived.ShutString
import Derived.SizedLaws
import Derived.ChangeOld
import Derived.Below
import Derived.Carry
import Derived.Lib.SmallJoins
import Derived.Deep.SlicePairs
import Derived.SliceStrings
import Derived.ChangeSlices
namespace Go.Proofs.YthcdbeggegmlmaaDoor.depsBack
open Go.ChangeShapes Go.WideShapes Go.ChangeAt Go.RowKit Go.Joins Go.Deep
open Go.ChangeMaps (open_string shut_string)
set_option linter.unusedVariables false

theorem own : ownKnob Tryd.prog.godebug = none := by kernel_rfl
theorem laidOut : laidOutB Tryd.prog = true := by kernel_rfl

theorem few_facts {bs : List Nat} {z : List Dp.ID} (h : Dp.fewD (bs.take 20) = z) : Dp.IsSet z ∧ z.length ≤ 36 ∧ Dp.InR z ∧ (∀ x ∈ z, 0 ≤ x.1 ∧ 0 ≤ x.2) := by
  subst h
  refine ⟨Dp.few_set _, Dp.few_length _, fun x hx => ?_, fun x hx => ?_⟩
  · have := Dp.few_bd hx; omega
  · have := Dp.few_bd hx; omega

set_option maxRecDepth 100000 in
set_option maxHeartbeats 4000000 in
theorem walk (a0 : Option Addr) (len0 cap0 : Nat) (a1 : ByteArray) (a2 : Int) (w : World) (w0 : ∀ i, i < len0 → ∃ (x : Addr) (e0 : Int), a0 = some x ∧ x.block < w.heap.size ∧ w.cell? (x.add i) = some (.int .u8 e0) ∧ (Lit.int .u8 e0).wf = true) (l0 : len0 ≤ cap0) (m0 : cap0 ≤ maxLen) (z1 : a1.size ≤ 140737488351232) (w2 : (Lit.int .u16 a2).wf = true) (ht : Bl.Tab w) :
    Calls Tryd.prog 6 #[.slice a0 len0 cap0, .string a1, .int .u16 a2] w fun e w' => e = .returned (.bool true) ∧ Below w.heap.size w w' := by
  obtain ⟨xs, rfl, hx⟩ := Dp.Bts.of w0
  have HX := Lib.hid hx
  have q2 : 0 ≤ a2 ∧ a2 ≤ 65535 := by simpa [Lit.wf, IntKind.min, IntKind.max, IntKind.signed, IntKind.bits] using w2
  obtain ⟨q20, q21⟩ := q2
  clear w0 w2 hx
  obtain ⟨za, hza⟩ : ∃ za, Hid (Dp.fewD (xs.take 20) = za) := ⟨_, Lib.hid rfl⟩
  have FA := few_facts hza.out
  obtain ⟨s, ok, hs⟩ : ∃ s ok, Dp.putD za = (s, ok) := ⟨_, _, rfl⟩
  obtain rfl : ok = true := by
    rcases Dp.putD_way _ _ _ hs with ⟨_, _, h, _⟩ | ⟨h, _⟩
    · exact h
    · have := (Dp.setD_iff za).2 FA.1
      have := FA.2.1
      rcases h with h | h
      · rw [‹Dp.setD za = true›] at h; cases h
      · omega
  have hsz := (Dp.putD_size za s hs).1
  have hs2 : 2 ≤ s.size := by omega
  have hs3 : s.size ≤ 146 := by have := FA.2.1; omega
  obtain ⟨c, ec⟩ : ∃ c : Nat, a2 % (s.size : Int) = (c : Int) := ⟨(a2 % (s.size : Int)).toNat, by have := Int.emod_nonneg a2 (show (s.size : Int) ≠ 0 by omega); omega⟩
  have hc : c < s.size := by have := Int.emod_lt_of_pos a2 (show (0 : Int) < (s.size : Int) by omega); omega
  have et : a2.tmod (s.size : Int) = (c : Int) := by rw [Int.tmod_eq_emod_of_nonneg q20]; exact ec
  have cw : IntKind.i64.wrap a2 = a2 := Go.IntWalk.i64_in _ (by omega)
  obtain ⟨t, ett⟩ : ∃ t, s ++ a1 = t := ⟨_, rfl⟩
  obtain ⟨d, ed⟩ : ∃ d, s.extract 0 c = d := ⟨_, rfl⟩
  have hts : t.size = s.size + a1.size := by rw [← ett, Pk.cat_size]
  have htm : t.size ≤ maxLen := by unfold maxLen; omega
  have hds : d.size = c := by rw [← ed, Pk.size_extract0]; omega
  have hdm : d.size ≤ maxLen := by unfold maxLen; omega
  have hg : Dp.getD t false = (za, a1, false) := by rw [← ett]; exact Dp.getD_back za s a1 hs
  obtain ⟨l2, t2, c2, hg2⟩ := Dp.triple (Dp.getD d false)
  obtain rfl : c2 = true := by
    have := Dp.getD_cut za s hs c hc
    rw [ed, hg2] at this
    exact this
  have hn : s.toList.isEmpty = false := by
    rw [ByteArray.toList_eq, Bool.eq_false_iff, ne_eq, List.isEmpty_iff]; intro h; have := Pk.size_of_nil s h; omega
  have hn2 : (s.toList == []) = false := by
    rw [ByteArray.toList_eq, beq_eq_false_iff_ne]; intro h; have := Pk.size_of_nil s h; omega
  have hsum : (s.size : Int) + (a1.size : Int) ≤ 9223372036854775807 := by omega
  have hsum2 : ¬ 9223372036854775807 < s.size + a1.size := by omega
  have hcs : ((c : Nat) : Int) ≤ (s.size : Int) := by omega
  have hs0 : ((s.size : Int) == 0) = false := by rw [beq_eq_false_iff_ne]; omega
  have HS := Lib.hid hs
  have G := Lib.hid hg
  have G2 := Lib.hid hg2
  have HT := Lib.hid ht
  have LA := Lib.hid FA.2.1
  clear FA ht hs hg hg2 hsz hs3 ec hts hds
  go_enter Tryd.func6, Tryd.ntmps6
  go_wp2_with fail
  refine (Dp.examples_any w HT.out).mono ?_
  rintro e v1 ⟨rfl, hb⟩
  have B1 := Lib.hid hb
  clear hb
  go_wp2_with fail
  refine (Dp.few_any xs za hza.out a0 cap0 l0 m0 v1 (HX.out.kept B1.out)).mono ?_
  rintro e v2 ⟨pa, ca, rfl, ia, hb⟩
  have B2 := Lib.hid (B1.out.trans (hb.mono B1.out.size))
  have IA2 := Lib.hid ia
  clear hb ia B1
  go_wp2_with fail
  refine (Dp.putset_any za s true HS.out pa ca v2 IA2.out.toIds).mono ?_
  rintro e v3 ⟨rfl, hb⟩
  have B3 := Lib.hid (B2.out.trans (hb.mono B2.out.size))
  have IA3 := Lib.hid (IA2.out.kept hb)
  clear hb B2 IA2
  go_wp2_with fail
  refine (Dp.get_any t false za a1 false G.out htm v3).mono ?_
  rintro e v4 ⟨pb, cb, rfl, ib, hb⟩
  have B4 := Lib.hid (B3.out.trans (hb.mono B3.out.size))
  have IA4 := Lib.hid (IA3.out.kept hb)
  have IB4 := Lib.hid ib
  clear hb ib B3 IA3
  go_wp2_with fail
  have hb := Rw.below_1 v4 (.cells #[.string a1, .bool false] 51)
  have B5 := Lib.hid (B4.out.trans (hb.mono B4.out.size))
  have IA5 := Lib.hid (IA4.out.kept hb)
  have IB5 := Lib.hid (IB4.out.kept hb)
  have R5 := Lib.hid (Bl.Pair.new v4 (.string a1) (.bool false) 51)
  generalize v4.alloc (.cells #[.string a1, .bool false] 51) = v5 at *
  generalize v4.heap.size = g5 at *
  clear hb B4 IA4 IB4
  refine (Dp.get_any d false l2 t2 true G2.out hdm v5).mono ?_
  rintro e v6 ⟨pc, cc, rfl, _, hb⟩
  have B6 := Lib.hid (B5.out.trans (hb.mono B5.out.size))
  have IA6 := Lib.hid (IA5.out.kept hb)
  have IB6 := Lib.hid (IB5.out.kept hb)
  have R6 := Lib.hid (R5.out.over hb)
  clear hb B5 IA5 IB5 R5
  go_wp2_with fail
  have hb := Rw.below_1 v6 (.cells #[.string t2, .bool true] 51)
  have B7 := Lib.hid (B6.out.trans (hb.mono B6.out.size))
  have IA7 := Lib.hid (IA6.out.kept hb)
  have IB7 := Lib.hid (IB6.out.kept hb)
  have R7 := Lib.hid (R6.out.over hb)
  have P7 := Lib.hid (Bl.Pair.new v6 (.string t2) (.bool true) 51)
  generalize v6.alloc (.cells #[.string t2, .bool true] 51) = v7 at *
  generalize v6.heap.size = g7 at *
  clear hb B6 IA6 IB6 R6
  refine (Dp.equal_any za za true (decide_eq_true rfl) pa pb ca cb v7 IA7.out.toIds IB7.out.toIds).mono ?_
  rintro e v8 ⟨rfl, hb⟩
  have B8 := Lib.hid (B7.out.trans (hb.mono B7.out.size))
  have ⟨M0, M1, M2, M3, M4⟩ := R7.out.over hb
  have ⟨N0, N1, N2, N3, N4⟩ := P7.out.over hb
  clear hb B7
  go_wp2
  go_ret
  exact ⟨rfl, B8.out⟩

theorem laid_met (os : Os) : laidMet Tryd.prog Rows.depsBackRow.laid ((World.doorLaid Tryd.prog 24 os).forCall (fun _ _ => 0) ⟨#[], #[.slice none 0 0, .string ByteArray.empty, .int .u16 0], []⟩).memory :=
  laidMet_of_run' 8 (by kernel_rfl) (by kernel_rfl)
theorem reads (os : Os) {H : Type} (enc : TypeId × Value → H) : ∃ places, DataW.whole enc Tryd.prog ((World.doorLaid Tryd.prog 24 os).forCall (fun _ _ => 0) ⟨#[], #[.slice none 0 0, .string ByteArray.empty, .int .u16 0], []⟩).memory Tryd.f6.params.toList Rows.depsBackSpec.vars false (#[.slice none 0 0, .string ByteArray.empty, .int .u16 0] : Array Value).toList 8 = some ([.nil, .lit (.string []), .lit (.int .u16 0)], [], places) :=
  ⟨[], by kernel_rfl⟩

set_option maxRecDepth 100000 in
theorem lifted (os : Os) (started : os.Started) (H : Type) (enc : TypeId × Value → H) (F : Stop.Interp) :
    ReturnsInHanded {} Tryd.checked os 6 .any ((OpenSpec.ofChange Rows.depsBackSpec).preRow enc Tryd.prog Tryd.f6 Rows.depsBackRow.domain false Rows.depsBackRow.laid) (((OpenSpec.ofChange Rows.depsBackSpec).at F).post enc Tryd.prog Tryd.f6 false true false false) := by
  obtain ⟨places, hx⟩ := reads os enc
  refine returnsInHanded_of_row (C := Tryd.checked) (s := OpenSpec.ofChange Rows.depsBackSpec) own started (by kernel_rfl) Tryd.func6
    (witness_row_at (enc := enc) (C := Tryd.checked) false (World.doorLaid Tryd.prog 24 os) #[.slice none 0 0, .string ByteArray.empty, .int .u16 0] rfl (by kernel_rfl) (by kernel_rfl) (by kernel_rfl)
      (OpenSpec.preRow_of_cond 8 hx (by kernel_rfl) (fun k hk => by cases hk) (by kernel_rfl) (laid_met os))) ?_
  intro W base args ds gs before hval0 hW _ _ hsz0 hL _ _
  have hval : ∀ (j : Nat) t v, Tryd.f6.params[j]? = some t → args[j]? = some v → Value.okWide Tryd.prog W .any base t v := hval0
  have hsz : (DataW.weightsEach Tryd.prog (Tryd.f6.params.toList ++ Rows.depsBackSpec.plain.varTypes Tryd.prog) (ds ++ gs)).all (· ≤ reachBytes) = true := hsz0
  have hW' := hW
  obtain ⟨p, q, hA0, hV, rfl, hfz, hnd⟩ := hW
  have hA : DataW.TrodAll enc Tryd.prog W 0 (fun _ => true) true Tryd.f6.params.toList args.toList ds p := hA0
  rw [Tryd.params6] at hA hval hsz
  obtain ⟨v0, vs0, d0, ds0, p0, q0, hargs, rfl, rfl, h0, r0⟩ := trodAll_cons hA
  obtain ⟨v1, vs1, d1, ds1, p1, q1, rfl, rfl, rfl, h1, r1⟩ := trodAll_cons r0
  obtain ⟨v2, vs2, d2, ds2, p2, q2, rfl, rfl, rfl, h2, r2⟩ := trodAll_cons r1
  obtain ⟨rfl, rfl, rfl⟩ := trodAll_nil r2
  obtain rfl : args = #[v0, v1, v2] := by cases args; simp_all
  obtain ⟨rfl, rfl⟩ := trodVars_none hV
  have k0 := h0
  have lt0 : ∀ x ∈ p0, x.block < W.heap.size := by obtain ⟨m, hm⟩ := k0; exact DataW.trod_lt m _ _ _ hm
  obtain ⟨a0, len0, cap0, rfl⟩ := okWide_slice Tryd.underlying22 (hval 0 22 v0 rfl rfl)
  obtain ⟨a1, rfl, rfl, rfl, w1⟩ := open_string Tryd.underlying9 (hval 1 9 v1 rfl rfl) h1
  obtain ⟨a2, rfl, rfl, rfl, w2⟩ := open_int Tryd.underlying60 (hval 2 60 v2 rfl rfl) h2
  clear hA0 hval0
  have b0 : (∀ i, i < len0 → ∃ (x : Addr) (e0 : Int), a0 = some x ∧ x.block < W.heap.size ∧ W.cell? (x.add i) = some (.int .u8 e0) ∧ (Lit.int .u8 e0).wf = true) ∧ len0 ≤ cap0 ∧ cap0 ≤ maxLen := by
    obtain ⟨fuel, hf⟩ := h0
    rcases open_ints Tryd.underlying22 Tryd.underlying5 (by kernel_rfl) hf with ⟨hcs, _⟩ | ⟨x, l, c, zs, hcs, _, hl, hm, hsl, _, hel, hwf⟩
    · simp [Value.cells] at hcs
      obtain ⟨rfl, rfl, rfl⟩ := hcs
      exact ⟨fun i hi => absurd hi (by omega), Nat.le_refl _, Nat.zero_le _⟩
    · simp [Value.cells] at hcs
      obtain ⟨rfl, rfl, rfl⟩ := hcs
      refine ⟨fun i hi => ?_, hl, hm⟩
      have hi' : i < zs.length := by rw [hsl]; split <;> omega
      have c0 := hel i hi'
      have hb := World.block_lt_of_cell? _ _ c0
      rw [Pk.block_add] at hb
      exact ⟨x, _, rfl, hb, c0, hwf _ (by rw [List.getD_eq_getElem?_getD, List.getElem?_eq_getElem hi']; exact List.getElem_mem hi')⟩
  obtain ⟨w0, l0, m0⟩ := b0
  have z1 : a1.size ≤ 140737488351232 := by
    have := sized_string hsz (j := 1) (t := 9) rfl rfl
    simp only [Array.length_toList, reachBytes] at this
    exact this
  refine (walk a0 len0 cap0 a1 a2 W w0 l0 m0 z1 w2 (Bl.tab_of hL)).mono fun e W' ⟨he, bel⟩ => ?_
  subst he
  exact ⟨_, rfl, _, _, _, [], _, [], hW', trodAll_mk1 (shut_bool Tryd.underlying4 _), (trodAll_cons_mk (Below.trod laidOut (by kernel_rfl) (of_decide_eq_true (by kernel_rfl)) k0 bel lt0) (trodAll_cons_mk (shut_string Tryd.underlying9 w1) (trodAll_cons_mk (shut_int Tryd.underlying60 w2) trodAll_mk0))), rfl, bel.frame _, fun h => by cases h⟩

theorem over : Rows.depsBackRow.holds Tryd.pinned (OpenSpec.ofChange Rows.depsBackSpec) :=
  OpenClaim.holds_of_cond 6 Tryd.f6 rfl rfl rfl rfl rfl rfl rfl ⟨rfl, rfl, rfl, rfl, rfl⟩ rfl rfl rfl rfl rfl (by kernel_rfl) Tryd.func6 (by kernel_rfl)
    (of_decide_eq_true (by kernel_rfl)) (by unfold Func.isWrapper; first | (rw [if_pos (by decide +kernel)]; kernel_rfl) | (rw [if_neg (by decide +kernel)]; exact ⟨rfl, rfl⟩))
    (fun os started H enc _ F => by rw [OpenClaim.pre_eq_preRow]; exact lifted os started H enc F)

/-- No parameter wants a stand-in. -/
theorem plain (f : FuncId) (fn : Func) (hf : Tryd.pinned.checked.prog.funcNamed "comitia/comitialaw08.DepsBack" = some f) (hfn : Tryd.pinned.checked.prog.funcs[f]? = some fn) :
    false = Tryd.pinned.checked.prog.looks [] ∧ ∀ (j : Nat) t, fn.params[j]? = some t → Tryd.pinned.checked.prog.wantsStandIn t = false := by
  obtain rfl : f = 6 := Option.some.inj ((show Tryd.prog.funcNamed "comitia/comitialaw08.DepsBack" = some 6 by kernel_rfl).symm.trans hf) |>.symm
  obtain rfl : fn = Tryd.f6 := (Option.some.inj (Tryd.func6.symm.trans hfn)).symm
  refine ⟨by kernel_rfl, fun j t ht => ?_⟩
  rw [Tryd.params6] at ht
  have hm : t ∈ [22, 9, 60] := by simpa using Array.mem_of_getElem? ht
  have hall : ([22, 9, 60].all fun u => !Tryd.prog.wantsStandIn u) = true := by kernel_rfl
  exact (show Tryd.prog.wantsStandIn t = false by simpa using List.all_eq_true.1 hall t hm)

theorem proved : Rows.DepsBackCardSaid :=
  Claim7.holds_tied_plain_at .later [] _ _ _ _ over (fun _ h => by cases h) (by kernel_rfl) (fun _ h => by cases h) depsBack_row_tie rfl ⟨rfl, rfl⟩ (by kernel_rfl) rfl plain (by kernel_rfl)
end Go.Proofs.YthcdbeggegmlmaaDoor.depsBack
