/-
  Proved: for every number with a list of pairs, flag, slice of bytes, text and cut the law AttrBack returns true and leaves its inputs as they were; the card ties the three tables of the library that the row lists to the text of the program. No condition beyond the form itself (each text at most 2^47 - 4096 bytes; the listed tables start as that text lays them).
-/
import Derived.Test.YtkemljpjfbmjgaaDoorAttrL
import Derived.Test.YtkemljpjfbmjgaaDoorAttrA
import Derived.Test.YtkemljpjfbmjgaaDoorSpan
import Derived.Test.YtkemljpjfbmjgaaDoorBox
import Derived.Test.YtkemljpjfbmjgaaDoorTab
import Derived.Test.YtkemljpjfbmjgaaDoorDepsD
import Derived.Test.YtkemljpjfbmjgaaDoorCards
import Derived.Test.YtkemljpjfbmjgaaDoorTie
import Derived.Deep.DeepHandedRow
import Derived.LaidMore
import Derived.SevenTiedAt
import Derived.WalkKit
import Derived.ProofKit
import Derived.OpenShut
import Derived.ShutString
import Derived.SizedLaws
import Derived.ChangeOld
import Derived.Below
import Derived.Carry
import Derived.Lib.SmallJoins
import Derived.Deep.SlicePairs
import Derived.SliceStrings
import Derived.ChangeSlices
namespace Go.Proofs.YtkemljpjfbmjgaaDoor.attrBack
open Go.ChangeShapes Go.WideShapes Go.ChangeAt Go.RowKit Go.Joins Go.Deep
open Go.ChangeMaps (open_string shut_string)
set_option linter.unusedVariables false

theorem own : ownKnob Tryd.prog.godebug = none := by kernel_rfl
theorem laidOut : laidOutB Tryd.prog = true := by kernel_rfl

set_option maxRecDepth 100000 in
set_option maxHeartbeats 4000000 in
theorem walk (a0_0 : Int) (a0_1 : Option Addr) (len0_1 cap0_1 : Nat) (a0_2 : Bool) (a0_3 : Option Addr) (len0_3 cap0_3 : Nat) (a1 : ByteArray) (a2 : Int) (w : World) (w0_0 : (Lit.int .u32 a0_0).wf = true) (w0_1 : ∀ i, i < len0_1 → ∃ (x : Addr) (e0 e1 : Int), a0_1 = some x ∧ x.block < w.heap.size ∧ w.cell? (x.add (i * 2)) = some (.int .i64 e0) ∧ w.cell? (x.add (i * 2 + 1)) = some (.int .i64 e1) ∧ (Lit.int .i64 e0).wf = true ∧ (Lit.int .i64 e1).wf = true) (l0_1 : len0_1 ≤ cap0_1) (m0_1 : cap0_1 ≤ maxLen) (o0_1 : a0_1 = none → cap0_1 = 0) (w0_3 : ∀ i, i < len0_3 → ∃ (x : Addr) (e0 : Int), a0_3 = some x ∧ x.block < w.heap.size ∧ w.cell? (x.add i) = some (.int .u8 e0) ∧ (Lit.int .u8 e0).wf = true) (l0_3 : len0_3 ≤ cap0_3) (m0_3 : cap0_3 ≤ maxLen) (z1 : a1.size ≤ 140737488351232) (w2 : (Lit.int .u16 a2).wf = true) (ht : Bl.Tab w) :
    Calls Tryd.prog 6 #[.agg #[.int .u32 a0_0, .slice a0_1 len0_1 cap0_1, .bool a0_2, .slice a0_3 len0_3 cap0_3], .string a1, .int .u16 a2] w fun e w' => e = .returned (.bool true) ∧ Below w.heap.size w w' := by
  obtain ⟨na, rfl, hna⟩ := At.nat_of w0_0
  obtain ⟨ba, rfl, hba⟩ := Dp.Bts.of w0_3
  have TA := Lib.hid hba
  obtain ⟨za, hza⟩ : ∃ z, Hid (Dp.fewD (ba.take 20) = z) := ⟨_, Lib.hid rfl⟩
  obtain ⟨ka, hka⟩ : ∃ k, Hid (na % 5 = k) := ⟨_, Lib.hid rfl⟩
  have FA := At.few_facts hza.out
  have ua : ka < 4294967296 := by have := hka.out; omega
  clear hba w0_0 w0_3 w0_1
  have q2 : 0 ≤ a2 ∧ a2 ≤ 65535 := by simpa [Lit.wf, IntKind.min, IntKind.max, IntKind.signed, IntKind.bits] using w2
  obtain ⟨q20, q21⟩ := q2
  obtain ⟨s, hs, hsz⟩ := At.put_yes ka za FA.1 FA.2.2.2
  have hs2 : 6 ≤ s.size := by omega
  have hs3 : s.size ≤ 150 := by have := FA.2.1; omega
  obtain ⟨c, ec⟩ : ∃ c : Nat, a2 % (s.size : Int) = (c : Int) := ⟨(a2 % (s.size : Int)).toNat, by have := Int.emod_nonneg a2 (show (s.size : Int) ≠ 0 by omega); omega⟩
  have hc : c < s.size := by have := Int.emod_lt_of_pos a2 (show (0 : Int) < (s.size : Int) by omega); omega
  have et : a2.tmod (s.size : Int) = (c : Int) := by rw [Int.tmod_eq_emod_of_nonneg q20]; exact ec
  have cw : IntKind.i64.wrap a2 = a2 := Go.IntWalk.i64_in _ (by omega)
  obtain ⟨t, ett⟩ : ∃ t, s ++ a1 = t := ⟨_, rfl⟩
  obtain ⟨d, ed⟩ : ∃ d, s.extract 0 c = d := ⟨_, rfl⟩
  have hts : t.size = s.size + a1.size := by rw [← ett, Pk.cat_size]
  have htm : t.size ≤ maxLen := by unfold maxLen; omega
  have hds : d.size = c := by rw [← ed, Pk.size_extract0]; omega
  have hdm : d.size ≤ maxLen := by unfold maxLen; omega
  have hg : At.getA t false = ((ka, za), a1, false) := by rw [← ett]; exact At.get_back (ka, za) s a1 ua hs
  obtain ⟨⟨n2, l2⟩, t2, c2, hg2⟩ := Dp.triple (At.getA d false)
  obtain rfl : c2 = true := by
    have := At.get_cut (ka, za) s ua hs c hc
    rw [ed, hg2] at this
    exact this
  have hn : s.toList.isEmpty = false := by
    rw [ByteArray.toList_eq, Bool.eq_false_iff, ne_eq, List.isEmpty_iff]; intro h; have := Pk.size_of_nil s h; omega
  have hn2 : (s.toList == []) = false := by
    rw [ByteArray.toList_eq, beq_eq_false_iff_ne]; intro h; have := Pk.size_of_nil s h; omega
  have hsum : (s.size : Int) + (a1.size : Int) ≤ 9223372036854775807 := by omega
  have hsum2 : ¬ 9223372036854775807 < s.size + a1.size := by omega
  have hcs : ((c : Nat) : Int) ≤ (s.size : Int) := by omega
  have hs0 : ((s.size : Int) == 0) = false := by rw [beq_eq_false_iff_ne]; omega
  have HS := Lib.hid hs
  have G := Lib.hid hg
  have G2 := Lib.hid hg2
  have HT := Lib.hid ht
  have LA := Lib.hid FA.2.1
  clear FA ht hs hg hg2 hsz hs3 ec hts hds w2
  go_enter Tryd.func6, Tryd.ntmps6
  go_wp2_with fail
  have RA := Lib.hid (At.row_new w (.int .u32 na) (.slice a0_1 len0_1 cap0_1) (.bool a0_2) (.slice a0_3 ba.length cap0_3) 28)
  have B := Lib.hid (Bl.below_1 w (.cells #[.int .u32 na, .slice a0_1 len0_1 cap0_1, .bool a0_2, .slice a0_3 ba.length cap0_3] 28))
  generalize w.alloc (.cells #[.int .u32 na, .slice a0_1 len0_1 cap0_1, .bool a0_2, .slice a0_3 ba.length cap0_3] 28) = v0 at *
  refine (At.examples_any v0 (HT.out.over B.out)).mono ?_
  rintro e v1 ⟨rfl, hb⟩
  replace RA := Lib.hid (RA.out.over hb)
  replace B := Lib.hid (B.out.trans (hb.mono B.out.size))
  clear hb
  have ⟨ra0, ra1, ra2, ra3, ra4, ra5⟩ := At.row_four RA.out
  go_wp2_with fail
  replace RA := Lib.hid (At.row_own RA.out (.bool true))
  replace B := Lib.hid (B.out.setCell (p := ⟨w.heap.size, 2, none⟩) (Nat.le_refl _) (.bool true))
  clear ra0 ra1 ra2 ra3 ra4 ra5
  generalize v1.setCell ⟨w.heap.size, 2, none⟩ (.bool true) = w1 at *
  refine (At.attr_own na ka hka.out ba za hza.out a0_1 len0_1 cap0_1 a0_3 cap0_3 l0_3 m0_3 w1 (TA.out.kept B.out)).mono ?_
  rintro e v2 ⟨pa, ca, rfl, ia, hb⟩
  replace RA := Lib.hid (RA.out.over hb)
  replace B := Lib.hid (B.out.trans (hb.mono B.out.size))
  clear hb
  have IA := Lib.hid ia
  clear ia
  go_wp2_with fail
  have hb := Bl.below_1 v2 (.cells #[.int .u32 ka, .slice pa za.length ca] 25)
  replace RA := Lib.hid (RA.out.over hb)
  replace IA := Lib.hid (IA.out.kept hb)
  replace B := Lib.hid (B.out.trans (hb.mono B.out.size))
  have PA := Lib.hid (Bl.Pair.newAt (v2) (.int .u32 ka) (.slice pa za.length ca) 25 (v2.heap.size) (by simp))
  generalize v2.alloc (.cells #[.int .u32 ka, .slice pa za.length ca] 25) = v3 at *
  generalize v2.heap.size = g3 at *
  clear hb
  refine (At.put_any ka ua za s true HS.out (by have := LA.out; omega) pa ca v3 IA.out.toIds).mono ?_
  rintro e v4 ⟨rfl, hb⟩
  replace RA := Lib.hid (RA.out.over hb)
  replace IA := Lib.hid (IA.out.kept hb)
  replace PA := Lib.hid (PA.out.over hb)
  replace B := Lib.hid (B.out.trans (hb.mono B.out.size))
  clear hb
  go_wp2_with fail
  refine (At.get_any t false ka za a1 false G.out htm v4).mono ?_
  rintro e v5 ⟨pb, cb, rfl, ib, hb⟩
  replace RA := Lib.hid (RA.out.over hb)
  replace IA := Lib.hid (IA.out.kept hb)
  replace PA := Lib.hid (PA.out.over hb)
  replace B := Lib.hid (B.out.trans (hb.mono B.out.size))
  clear hb
  have IB := Lib.hid ib
  clear ib
  go_wp2_with fail
  have hb := Bl.below_2 v5 (.cells #[.int .u32 ka, .slice pb za.length cb] 25) (.cells #[.string a1, .bool false] 49)
  replace RA := Lib.hid (RA.out.over hb)
  replace IA := Lib.hid (IA.out.kept hb)
  replace PA := Lib.hid (PA.out.over hb)
  replace IB := Lib.hid (IB.out.kept hb)
  replace B := Lib.hid (B.out.trans (hb.mono B.out.size))
  have PB := Lib.hid ((Bl.Pair.newAt (v5) (.int .u32 ka) (.slice pb za.length cb) 25 (v5.heap.size) (by simp)).alloc (.cells #[.string a1, .bool false] 49))
  have QB := Lib.hid (Bl.Pair.newAt (v5.alloc (.cells #[.int .u32 ka, .slice pb za.length cb] 25)) (.string a1) (.bool false) 49 (v5.heap.size + 1) (by simp))
  generalize (v5.alloc (.cells #[.int .u32 ka, .slice pb za.length cb] 25)).alloc (.cells #[.string a1, .bool false] 49) = v6 at *
  generalize v5.heap.size = g6 at *
  clear hb
  refine (At.get_any d false n2 l2 t2 true G2.out hdm v6).mono ?_
  rintro e v7 ⟨pc, cc, rfl, ic, hb⟩
  replace RA := Lib.hid (RA.out.over hb)
  replace IA := Lib.hid (IA.out.kept hb)
  replace PA := Lib.hid (PA.out.over hb)
  replace IB := Lib.hid (IB.out.kept hb)
  replace PB := Lib.hid (PB.out.over hb)
  replace QB := Lib.hid (QB.out.over hb)
  replace B := Lib.hid (B.out.trans (hb.mono B.out.size))
  clear hb
  have IC := Lib.hid ic
  clear ic
  have ⟨pa_0, pa_1, pa_2, pa_3, pa_4⟩ := PA.out
  have ⟨pb_0, pb_1, pb_2, pb_3, pb_4⟩ := PB.out
  go_wp2_with fail
  have hb := Bl.below_2 v7 (.cells #[.int .u32 n2, .slice pc l2.length cc] 25) (.cells #[.string t2, .bool true] 49)
  clear pa_0 pa_1 pa_2 pa_3 pa_4 pb_0 pb_1 pb_2 pb_3 pb_4
  replace RA := Lib.hid (RA.out.over hb)
  replace IA := Lib.hid (IA.out.kept hb)
  replace PA := Lib.hid (PA.out.over hb)
  replace IB := Lib.hid (IB.out.kept hb)
  replace PB := Lib.hid (PB.out.over hb)
  replace QB := Lib.hid (QB.out.over hb)
  replace IC := Lib.hid (IC.out.kept hb)
  replace B := Lib.hid (B.out.trans (hb.mono B.out.size))
  have PC := Lib.hid ((Bl.Pair.newAt (v7) (.int .u32 n2) (.slice pc l2.length cc) 25 (v7.heap.size) (by simp)).alloc (.cells #[.string t2, .bool true] 49))
  have QC := Lib.hid (Bl.Pair.newAt (v7.alloc (.cells #[.int .u32 n2, .slice pc l2.length cc] 25)) (.string t2) (.bool true) 49 (v7.heap.size + 1) (by simp))
  generalize (v7.alloc (.cells #[.int .u32 n2, .slice pc l2.length cc] 25)).alloc (.cells #[.string t2, .bool true] 49) = v8 at *
  generalize v7.heap.size = g8 at *
  clear hb
  refine (At.same_any ka ka za za true (decide_eq_true rfl) pa pb ca cb v8 IA.out IB.out).mono ?_
  rintro e v9 ⟨rfl, hb⟩
  replace RA := Lib.hid (RA.out.over hb)
  replace IA := Lib.hid (IA.out.kept hb)
  replace PA := Lib.hid (PA.out.over hb)
  replace IB := Lib.hid (IB.out.kept hb)
  replace PB := Lib.hid (PB.out.over hb)
  replace QB := Lib.hid (QB.out.over hb)
  replace IC := Lib.hid (IC.out.kept hb)
  replace PC := Lib.hid (PC.out.over hb)
  replace QC := Lib.hid (QC.out.over hb)
  replace B := Lib.hid (B.out.trans (hb.mono B.out.size))
  clear hb
  have ⟨qb_0, qb_1, qb_2, qb_3, qb_4⟩ := QB.out
  have ⟨qc_0, qc_1, qc_2, qc_3, qc_4⟩ := QC.out
  go_wp2
  go_ret
  exact ⟨rfl, B.out⟩

theorem laid_met (os : Os) : laidMet Tryd.prog Rows.attrBackRow.laid ((World.doorLaid Tryd.prog 24 os).forCall (fun _ _ => 0) ⟨#[], #[.agg #[.int .u32 0, .slice none 0 0, .bool false, .slice none 0 0], .string ByteArray.empty, .int .u16 0], []⟩).memory :=
  laidMet_of_run' 8 (by kernel_rfl) (by kernel_rfl)
theorem reads (os : Os) {H : Type} (enc : TypeId × Value → H) : ∃ places, DataW.whole enc Tryd.prog ((World.doorLaid Tryd.prog 24 os).forCall (fun _ _ => 0) ⟨#[], #[.agg #[.int .u32 0, .slice none 0 0, .bool false, .slice none 0 0], .string ByteArray.empty, .int .u16 0], []⟩).memory Tryd.f6.params.toList Rows.attrBackSpec.vars false (#[.agg #[.int .u32 0, .slice none 0 0, .bool false, .slice none 0 0], .string ByteArray.empty, .int .u16 0] : Array Value).toList 8 = some ([.agg [.agg [.lit (.int .u32 0), .nil], .lit (.bool false), .nil], .lit (.string []), .lit (.int .u16 0)], [], places) :=
  ⟨[], by kernel_rfl⟩

set_option maxRecDepth 100000 in
theorem lifted (os : Os) (started : os.Started) (H : Type) (enc : TypeId × Value → H) (F : Stop.Interp) :
    ReturnsInHanded {} Tryd.checked os 6 .any ((OpenSpec.ofChange Rows.attrBackSpec).preRow enc Tryd.prog Tryd.f6 Rows.attrBackRow.domain false Rows.attrBackRow.laid) (((OpenSpec.ofChange Rows.attrBackSpec).at F).post enc Tryd.prog Tryd.f6 false true false false) := by
  obtain ⟨places, hx⟩ := reads os enc
  refine returnsInHanded_of_row (C := Tryd.checked) (s := OpenSpec.ofChange Rows.attrBackSpec) own started (by kernel_rfl) Tryd.func6
    (witness_row_at (enc := enc) (C := Tryd.checked) false (World.doorLaid Tryd.prog 24 os) #[.agg #[.int .u32 0, .slice none 0 0, .bool false, .slice none 0 0], .string ByteArray.empty, .int .u16 0] rfl (by kernel_rfl) (by kernel_rfl) (by kernel_rfl)
      (OpenSpec.preRow_of_cond 8 hx (by kernel_rfl) (fun k hk => by cases hk) (by kernel_rfl) (laid_met os))) ?_
  intro W base args ds gs before hval0 hW _ _ hsz0 hL _ _
  have hval : ∀ (j : Nat) t v, Tryd.f6.params[j]? = some t → args[j]? = some v → Value.okWide Tryd.prog W .any base t v := hval0
  have hsz : (DataW.weightsEach Tryd.prog (Tryd.f6.params.toList ++ Rows.attrBackSpec.plain.varTypes Tryd.prog) (ds ++ gs)).all (· ≤ reachBytes) = true := hsz0
  have hW' := hW
  obtain ⟨p, q, hA0, hV, rfl, hfz, hnd⟩ := hW
  have hA : DataW.TrodAll enc Tryd.prog W 0 (fun _ => true) true Tryd.f6.params.toList args.toList ds p := hA0
  rw [Tryd.params6] at hA hval hsz
  obtain ⟨v0, vs0, d0, ds0, p0, q0, hargs, rfl, rfl, h0, r0⟩ := trodAll_cons hA
  obtain ⟨v1, vs1, d1, ds1, p1, q1, rfl, rfl, rfl, h1, r1⟩ := trodAll_cons r0
  obtain ⟨v2, vs2, d2, ds2, p2, q2, rfl, rfl, rfl, h2, r2⟩ := trodAll_cons r1
  obtain ⟨rfl, rfl, rfl⟩ := trodAll_nil r2
  obtain rfl : args = #[v0, v1, v2] := by cases args; simp_all
  obtain ⟨rfl, rfl⟩ := trodVars_none hV
  have k0 := h0
  have lt0 : ∀ x ∈ p0, x.block < W.heap.size := by obtain ⟨m, hm⟩ := k0; exact DataW.trod_lt m _ _ _ hm
  obtain ⟨c0_0, c0_1, c0_2, c0_3, y0_0, y0_1, y0_2, y0_3, n0, m0, rfl, rfl, g0_0, g0_1, g0_2, g0_3⟩ := Rw.open_nest2 Tryd.underlying28 Tryd.underlying25 rfl rfl rfl (by kernel_rfl) (by kernel_rfl) (by kernel_rfl) (by kernel_rfl) (by kernel_rfl) (hval 0 28 v0 rfl rfl) h0
  obtain ⟨a0_0, e0_0, rfl, w0_0⟩ := DataW.trod_int Tryd.underlying22 g0_0
  obtain rfl : c0_0 = .int .u32 a0_0 := by simpa using e0_0
  obtain ⟨a0_1, len0_1, cap0_1, e0_1, w0_1, l0_1, m0_1, o0_1⟩ := Rw.pairs_of Tryd.underlying23 Tryd.underlying58 (by kernel_rfl) rfl rfl (by kernel_rfl) (by kernel_rfl) Tryd.underlying3 Tryd.underlying3 g0_1
  obtain rfl : c0_1 = .slice a0_1 len0_1 cap0_1 := e0_1
  obtain ⟨a0_2, e0_2, rfl⟩ := DataW.trod_bool Tryd.underlying4 g0_2
  obtain rfl : c0_2 = .bool a0_2 := by simpa using e0_2
  obtain ⟨a0_3, len0_3, cap0_3, e0_3, w0_3, l0_3, m0_3⟩ := Rw.ints_of Tryd.underlying26 Tryd.underlying5 (by kernel_rfl) g0_3
  obtain rfl : c0_3 = .slice a0_3 len0_3 cap0_3 := e0_3
  obtain ⟨a1, rfl, rfl, rfl, w1⟩ := open_string Tryd.underlying9 (hval 1 9 v1 rfl rfl) h1
  obtain ⟨a2, rfl, rfl, rfl, w2⟩ := open_int Tryd.underlying60 (hval 2 60 v2 rfl rfl) h2
  clear hA0 hval0
  have z1 : a1.size ≤ 140737488351232 := by
    have := sized_string hsz (j := 1) (t := 9) rfl rfl
    simp only [Array.length_toList, reachBytes] at this
    exact this
  refine (walk a0_0 a0_1 len0_1 cap0_1 a0_2 a0_3 len0_3 cap0_3 a1 a2 W w0_0 w0_1 l0_1 m0_1 o0_1 w0_3 l0_3 m0_3 z1 w2 (Bl.tab_of hL)).mono fun e W' ⟨he, bel⟩ => ?_
  subst he
  exact ⟨_, rfl, _, _, _, [], _, [], hW', trodAll_mk1 (shut_bool Tryd.underlying4 _), (trodAll_cons_mk (Below.trod laidOut (by kernel_rfl) (of_decide_eq_true (by kernel_rfl)) k0 bel lt0) (trodAll_cons_mk (shut_string Tryd.underlying9 w1) (trodAll_cons_mk (shut_int Tryd.underlying60 w2) trodAll_mk0))), rfl, bel.frame _, fun h => by cases h⟩

theorem over : Rows.attrBackRow.holds Tryd.pinned (OpenSpec.ofChange Rows.attrBackSpec) :=
  OpenClaim.holds_of_cond 6 Tryd.f6 rfl rfl rfl rfl rfl rfl rfl ⟨rfl, rfl, rfl, rfl, rfl⟩ rfl rfl rfl rfl rfl (by kernel_rfl) Tryd.func6 (by kernel_rfl)
    (of_decide_eq_true (by kernel_rfl)) (by unfold Func.isWrapper; first | (rw [if_pos (by decide +kernel)]; kernel_rfl) | (rw [if_neg (by decide +kernel)]; exact ⟨rfl, rfl⟩))
    (fun os started H enc _ F => by rw [OpenClaim.pre_eq_preRow]; exact lifted os started H enc F)

/-- No parameter wants a stand-in. -/
theorem plain (f : FuncId) (fn : Func) (hf : Tryd.pinned.checked.prog.funcNamed "comitia/comitialaw09.AttrBack" = some f) (hfn : Tryd.pinned.checked.prog.funcs[f]? = some fn) :
    false = Tryd.pinned.checked.prog.looks [] ∧ ∀ (j : Nat) t, fn.params[j]? = some t → Tryd.pinned.checked.prog.wantsStandIn t = false := by
  obtain rfl : f = 6 := Option.some.inj ((show Tryd.prog.funcNamed "comitia/comitialaw09.AttrBack" = some 6 by kernel_rfl).symm.trans hf) |>.symm
  obtain rfl : fn = Tryd.f6 := (Option.some.inj (Tryd.func6.symm.trans hfn)).symm
  refine ⟨by kernel_rfl, fun j t ht => ?_⟩
  rw [Tryd.params6] at ht
  have hm : t ∈ [28, 9, 60] := by simpa using Array.mem_of_getElem? ht
  have hall : ([28, 9, 60].all fun u => !Tryd.prog.wantsStandIn u) = true := by kernel_rfl
  exact (show Tryd.prog.wantsStandIn t = false by simpa using List.all_eq_true.1 hall t hm)

theorem proved : Rows.AttrBackCardSaid :=
  Claim7.holds_tied_plain_at .later [] _ _ _ _ over (fun _ h => by cases h) (by kernel_rfl) (fun _ h => by cases h) attrBack_row_tie rfl ⟨rfl, rfl⟩ (by kernel_rfl) rfl plain (by kernel_rfl)
end Go.Proofs.YtkemljpjfbmjgaaDoor.attrBack
