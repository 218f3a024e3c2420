/-
  Proved: for every number of 32 bits, every two numbers of 8 bits and every text the law BallotBack returns true and leaves its inputs as they were; the card ties the three tables of the library that the row lists to the text of the program. No condition beyond the form itself (each text at most 2^47 - 4096 bytes; the listed tables start as that text lays them).
-/
import Derived.Test.YthmadcmoendndaaDoorBalL
import Derived.Test.YthmadcmoendndaaDoorCards
import Derived.Test.YthmadcmoendndaaDoorTie
import Derived.Deep.DeepHandedRow
import Derived.LaidMore
import Derived.SevenTiedAt
import Derived.WalkKit
import Derived.ProofKit
import Derived.OpenShut
import Derived.ShutString
import Derived.SizedLaws
import Derived.ChangeOld
import Derived.Below
import Derived.Carry
import Derived.Lib.SmallJoins
import Derived.Deep.SlicePairs
import Derived.SliceStrings
namespace Go.Proofs.YthmadcmoendndaaDoor.ballotBack
open Go.ChangeShapes Go.WideShapes Go.ChangeAt Go.RowKit Go.Joins Go.Deep
open Go.ChangeMaps (open_string shut_string)
set_option linter.unusedVariables false

theorem own : ownKnob Tryd.prog.godebug = none := by kernel_rfl
theorem laidOut : laidOutB Tryd.prog = true := by kernel_rfl

set_option maxRecDepth 100000 in
set_option maxHeartbeats 4000000 in
theorem walk (a0 : Int) (a1 : Int) (a2 : ByteArray) (a3 : Int) (w : World) (w0 : (Lit.int .u32 a0).wf = true) (w1 : (Lit.int .u8 a1).wf = true) (z2 : a2.size ≤ 140737488351232) (w3 : (Lit.int .u8 a3).wf = true) (ht : Bl.Tab w) :
    Calls Tryd.prog 5 #[.int .u32 a0, .int .u8 a1, .string a2, .int .u8 a3] w fun e w' => e = .returned (.bool true) ∧ Below w.heap.size w w' := by
  have q0 : 0 ≤ a0 ∧ a0 ≤ 4294967295 := by simpa [Lit.wf, IntKind.min, IntKind.max, IntKind.signed, IntKind.bits] using w0
  have q1 : 0 ≤ a1 ∧ a1 ≤ 255 := by simpa [Lit.wf, IntKind.min, IntKind.max, IntKind.signed, IntKind.bits] using w1
  have q3 : 0 ≤ a3 ∧ a3 ≤ 255 := by simpa [Lit.wf, IntKind.min, IntKind.max, IntKind.signed, IntKind.bits] using w3
  obtain ⟨q00, q01⟩ := q0
  obtain ⟨q10, q11⟩ := q1
  obtain ⟨q30, q31⟩ := q3
  clear w0 w1 w3
  obtain ⟨v, ev⟩ : ∃ v, 1 + a1 % 7 = v := ⟨_, rfl⟩
  obtain ⟨c, ec⟩ : ∃ c : Nat, a3 % 5 = (c : Int) := ⟨(a3 % 5).toNat, by omega⟩
  have hc : c < 5 := by omega
  have hv1 : 1 ≤ v := by omega
  have hv7 : v ≤ 7 := by omega
  obtain ⟨u, eu, hu⟩ : ∃ u, (if a0 = 0 then 0 else v) = u ∧ Bl.rightB a0 u = true := ⟨_, rfl, by
    rw [Bl.rightB_iff]; split
    · rename_i h; exact .inl ⟨h, rfl⟩
    · rename_i h; exact .inr ⟨by omega, hv1, hv7⟩⟩
  have lu : u % 256 = u := by rw [← eu]; split <;> omega
  obtain ⟨s, es⟩ : ∃ s, Bl.putB a0 u = s := ⟨_, rfl⟩
  obtain ⟨t, et⟩ : ∃ t, s ++ a2 = t := ⟨_, rfl⟩
  obtain ⟨d, ed⟩ : ∃ d, s.extract 0 c = d := ⟨_, rfl⟩
  have hs : s.size = 5 := by rw [← es]; exact Bl.putB_size _ _
  have hts : t.size = 5 + a2.size := by rw [← et, Pk.cat_size, hs]
  have htm : t.size ≤ maxLen := by unfold maxLen; omega
  have hds : d.size = c := by rw [← ed, Pk.size_extract0]; omega
  have hdm : d.size ≤ maxLen := by unfold maxLen; omega
  have hg : Bl.getB t false = (a0, u, a2, false) := by
    have h := Bl.get_put a0 u a2 q00 q01
    rw [Bl.low_is u u lu, hu, if_pos rfl, es, et] at h
    exact h
  have hb : Bl.getB d false = (0, 0, ⟨#[]⟩, true) := Bl.get_short d (by omega)
  have hn : s.toList.isEmpty = false := by
    rw [ByteArray.toList_eq, Bool.eq_false_iff, ne_eq, List.isEmpty_iff]; intro h; have := Pk.size_of_nil s h; omega
  have hsum : (s.size : Int) + (a2.size : Int) ≤ 9223372036854775807 := by omega
  have hcs : ((c : Nat) : Int) ≤ (s.size : Int) := by omega
  have hs5 : (s.size : Int) = 5 := by omega
  have S := Lib.hid es
  have G := Lib.hid hg
  have GB := Lib.hid hb
  have TM := Lib.hid htm
  have DM := Lib.hid hdm
  clear es hg hb hts htm hds hdm lu hu
  by_cases h0 : a0 = 0
  · subst h0
    replace eu : 0 = u := eu
    subst eu
    go_enter Tryd.func5, Tryd.ntmps5
    go_wp2_with fail
    refine (Bl.examples_any _ ht).mono ?_
    rintro e x1 ⟨rfl, hb⟩
    have belb : Below w.heap.size w x1 := hb
    have htb := Bl.Tab.over ht hb; clear ht
    clear hb
    have ht := htb; clear htb
    have bel := belb; clear belb
    go_wp2_with fail
    have bel' : Below w.heap.size w (x1.alloc (.cells #[.int .u32 0, .int .i64 0] 24)) := Bl.below_then ((bel)) (Bl.below_1 _ _) bel.size
    have k10 := Bl.Pair.newAt (x1) (.int .u32 0) (.int .i64 0) 24 (x1.heap.size) (by simp)
    have ht' : Bl.Tab (x1.alloc (.cells #[.int .u32 0, .int .i64 0] 24)) := Bl.Tab.over (ht) (Bl.below_1 _ _)
    clear bel ht
    have ht := ht'; clear ht'
    have bel := bel'; clear bel'
    generalize x1.alloc (.cells #[.int .u32 0, .int .i64 0] 24) = X2 at *
    generalize x1.heap.size = g2 at *
    refine (Bl.put_any 0 0 s S.out (by omega) (by omega) _).mono ?_
    rintro e x3 ⟨rfl, hb⟩
    have belb := Bl.below_then bel hb bel.size; clear bel
    have k10b := k10.over hb; clear k10
    have htb := Bl.Tab.over ht hb; clear ht
    clear hb
    have k10 := k10b; clear k10b
    have ht := htb; clear htb
    have bel := belb; clear belb
    go_wp2_with fail
    refine (Bl.get_any t false 0 0 a2 false G.out TM.out _).mono ?_
    rintro e x4 ⟨rfl, hb⟩
    have belb := Bl.below_then bel hb bel.size; clear bel
    have k10b := k10.over hb; clear k10
    have htb := Bl.Tab.over ht hb; clear ht
    clear hb
    have k10 := k10b; clear k10b
    have ht := htb; clear htb
    have bel := belb; clear belb
    have bel' : Below w.heap.size w ((x4.alloc (.cells #[.int .u32 0, .int .i64 0] 24)).alloc (.cells #[.string a2, .bool false] 26)) := Bl.below_then (bel) (Bl.below_2 _ _ _) bel.size
    have k10' := ((k10).alloc (.cells #[.int .u32 0, .int .i64 0] 24)).alloc (.cells #[.string a2, .bool false] 26)
    have k12 := (Bl.Pair.newAt (x4) (.int .u32 0) (.int .i64 0) 24 (x4.heap.size) (by simp)).alloc (.cells #[.string a2, .bool false] 26)
    have k13 := Bl.Pair.newAt (x4.alloc (.cells #[.int .u32 0, .int .i64 0] 24)) (.string a2) (.bool false) 26 (x4.heap.size + 1) (by simp)
    have ht' : Bl.Tab ((x4.alloc (.cells #[.int .u32 0, .int .i64 0] 24)).alloc (.cells #[.string a2, .bool false] 26)) := Bl.Tab.over (ht) (Bl.below_2 _ _ _)
    clear bel k10 ht
    have k10 := k10'; clear k10'
    have ht := ht'; clear ht'
    have bel := bel'; clear bel'
    go_wp2_with fail
    generalize (x4.alloc (.cells #[.int .u32 0, .int .i64 0] 24)).alloc (.cells #[.string a2, .bool false] 26) = X4 at *
    generalize x4.heap.size = g4 at *
    refine (Bl.get_any d false 0 0 ⟨#[]⟩ true GB.out DM.out _).mono ?_
    rintro e x5 ⟨rfl, hb⟩
    have belb := Bl.below_then bel hb bel.size; clear bel
    have k10b := k10.over hb; clear k10
    have k12b := k12.over hb; clear k12
    have k13b := k13.over hb; clear k13
    have htb := Bl.Tab.over ht hb; clear ht
    clear hb
    have k10 := k10b; clear k10b
    have k12 := k12b; clear k12b
    have k13 := k13b; clear k13b
    have ht := htb; clear htb
    have bel := belb; clear belb
    have bel' : Below w.heap.size w ((x5.alloc (.cells #[.int .u32 0, .int .i64 0] 24)).alloc (.cells #[.string ⟨#[]⟩, .bool true] 26)) := Bl.below_then (bel) (Bl.below_2 _ _ _) bel.size
    have k10' := ((k10).alloc (.cells #[.int .u32 0, .int .i64 0] 24)).alloc (.cells #[.string ⟨#[]⟩, .bool true] 26)
    have k12' := ((k12).alloc (.cells #[.int .u32 0, .int .i64 0] 24)).alloc (.cells #[.string ⟨#[]⟩, .bool true] 26)
    have k13' := ((k13).alloc (.cells #[.int .u32 0, .int .i64 0] 24)).alloc (.cells #[.string ⟨#[]⟩, .bool true] 26)
    have k14 := (Bl.Pair.newAt (x5) (.int .u32 0) (.int .i64 0) 24 (x5.heap.size) (by simp)).alloc (.cells #[.string ⟨#[]⟩, .bool true] 26)
    have k15 := Bl.Pair.newAt (x5.alloc (.cells #[.int .u32 0, .int .i64 0] 24)) (.string ⟨#[]⟩) (.bool true) 26 (x5.heap.size + 1) (by simp)
    have ht' : Bl.Tab ((x5.alloc (.cells #[.int .u32 0, .int .i64 0] 24)).alloc (.cells #[.string ⟨#[]⟩, .bool true] 26)) := Bl.Tab.over (ht) (Bl.below_2 _ _ _)
    clear bel k10 k12 k13 ht
    have k10 := k10'; clear k10'
    have k12 := k12'; clear k12'
    have k13 := k13'; clear k13'
    have ht := ht'; clear ht'
    have bel := bel'; clear bel'
    have ⟨k10_0, k10_1, k10_2, k10_3, k10_4⟩ := k10
    have ⟨k12_0, k12_1, k12_2, k12_3, k12_4⟩ := k12
    have ⟨k13_0, k13_1, k13_2, k13_3, k13_4⟩ := k13
    have ⟨k15_0, k15_1, k15_2, k15_3, k15_4⟩ := k15
    go_wp2
    generalize (x5.alloc (.cells #[.int .u32 0, .int .i64 0] 24)).alloc (.cells #[.string ⟨#[]⟩, .bool true] 26) = X5 at *
    generalize x5.heap.size = g5 at *
    go_ret
    exact ⟨rfl, bel⟩
  · have h0b : (a0 == 0) = false := by simp [h0]
    replace eu : v = u := by rw [if_neg h0] at eu; exact eu
    subst eu
    go_enter Tryd.func5, Tryd.ntmps5
    go_wp2_with fail
    refine (Bl.examples_any _ ht).mono ?_
    rintro e x1 ⟨rfl, hb⟩
    have belb : Below w.heap.size w x1 := hb
    have htb := Bl.Tab.over ht hb; clear ht
    clear hb
    have ht := htb; clear htb
    have bel := belb; clear belb
    go_wp2_with fail
    have bel' : Below w.heap.size w (x1.alloc (.cells #[.int .u32 a0, .int .i64 v] 24)) := Bl.below_then ((bel)) (Bl.below_1 _ _) bel.size
    have k10 := Bl.Pair.newAt (x1) (.int .u32 a0) (.int .i64 v) 24 (x1.heap.size) (by simp)
    have ht' : Bl.Tab (x1.alloc (.cells #[.int .u32 a0, .int .i64 v] 24)) := Bl.Tab.over (ht) (Bl.below_1 _ _)
    clear bel ht
    have ht := ht'; clear ht'
    have bel := bel'; clear bel'
    generalize x1.alloc (.cells #[.int .u32 a0, .int .i64 v] 24) = X2 at *
    generalize x1.heap.size = g2 at *
    refine (Bl.put_any a0 v s S.out (by omega) (by omega) _).mono ?_
    rintro e x3 ⟨rfl, hb⟩
    have belb := Bl.below_then bel hb bel.size; clear bel
    have k10b := k10.over hb; clear k10
    have htb := Bl.Tab.over ht hb; clear ht
    clear hb
    have k10 := k10b; clear k10b
    have ht := htb; clear htb
    have bel := belb; clear belb
    go_wp2_with fail
    refine (Bl.get_any t false a0 v a2 false G.out TM.out _).mono ?_
    rintro e x4 ⟨rfl, hb⟩
    have belb := Bl.below_then bel hb bel.size; clear bel
    have k10b := k10.over hb; clear k10
    have htb := Bl.Tab.over ht hb; clear ht
    clear hb
    have k10 := k10b; clear k10b
    have ht := htb; clear htb
    have bel := belb; clear belb
    have bel' : Below w.heap.size w ((x4.alloc (.cells #[.int .u32 a0, .int .i64 v] 24)).alloc (.cells #[.string a2, .bool false] 26)) := Bl.below_then (bel) (Bl.below_2 _ _ _) bel.size
    have k10' := ((k10).alloc (.cells #[.int .u32 a0, .int .i64 v] 24)).alloc (.cells #[.string a2, .bool false] 26)
    have k12 := (Bl.Pair.newAt (x4) (.int .u32 a0) (.int .i64 v) 24 (x4.heap.size) (by simp)).alloc (.cells #[.string a2, .bool false] 26)
    have k13 := Bl.Pair.newAt (x4.alloc (.cells #[.int .u32 a0, .int .i64 v] 24)) (.string a2) (.bool false) 26 (x4.heap.size + 1) (by simp)
    have ht' : Bl.Tab ((x4.alloc (.cells #[.int .u32 a0, .int .i64 v] 24)).alloc (.cells #[.string a2, .bool false] 26)) := Bl.Tab.over (ht) (Bl.below_2 _ _ _)
    clear bel k10 ht
    have k10 := k10'; clear k10'
    have ht := ht'; clear ht'
    have bel := bel'; clear bel'
    go_wp2_with fail
    generalize (x4.alloc (.cells #[.int .u32 a0, .int .i64 v] 24)).alloc (.cells #[.string a2, .bool false] 26) = X4 at *
    generalize x4.heap.size = g4 at *
    refine (Bl.get_any d false 0 0 ⟨#[]⟩ true GB.out DM.out _).mono ?_
    rintro e x5 ⟨rfl, hb⟩
    have belb := Bl.below_then bel hb bel.size; clear bel
    have k10b := k10.over hb; clear k10
    have k12b := k12.over hb; clear k12
    have k13b := k13.over hb; clear k13
    have htb := Bl.Tab.over ht hb; clear ht
    clear hb
    have k10 := k10b; clear k10b
    have k12 := k12b; clear k12b
    have k13 := k13b; clear k13b
    have ht := htb; clear htb
    have bel := belb; clear belb
    have bel' : Below w.heap.size w ((x5.alloc (.cells #[.int .u32 0, .int .i64 0] 24)).alloc (.cells #[.string ⟨#[]⟩, .bool true] 26)) := Bl.below_then (bel) (Bl.below_2 _ _ _) bel.size
    have k10' := ((k10).alloc (.cells #[.int .u32 0, .int .i64 0] 24)).alloc (.cells #[.string ⟨#[]⟩, .bool true] 26)
    have k12' := ((k12).alloc (.cells #[.int .u32 0, .int .i64 0] 24)).alloc (.cells #[.string ⟨#[]⟩, .bool true] 26)
    have k13' := ((k13).alloc (.cells #[.int .u32 0, .int .i64 0] 24)).alloc (.cells #[.string ⟨#[]⟩, .bool true] 26)
    have k14 := (Bl.Pair.newAt (x5) (.int .u32 0) (.int .i64 0) 24 (x5.heap.size) (by simp)).alloc (.cells #[.string ⟨#[]⟩, .bool true] 26)
    have k15 := Bl.Pair.newAt (x5.alloc (.cells #[.int .u32 0, .int .i64 0] 24)) (.string ⟨#[]⟩) (.bool true) 26 (x5.heap.size + 1) (by simp)
    have ht' : Bl.Tab ((x5.alloc (.cells #[.int .u32 0, .int .i64 0] 24)).alloc (.cells #[.string ⟨#[]⟩, .bool true] 26)) := Bl.Tab.over (ht) (Bl.below_2 _ _ _)
    clear bel k10 k12 k13 ht
    have k10 := k10'; clear k10'
    have k12 := k12'; clear k12'
    have k13 := k13'; clear k13'
    have ht := ht'; clear ht'
    have bel := bel'; clear bel'
    have ⟨k10_0, k10_1, k10_2, k10_3, k10_4⟩ := k10
    have ⟨k12_0, k12_1, k12_2, k12_3, k12_4⟩ := k12
    have ⟨k13_0, k13_1, k13_2, k13_3, k13_4⟩ := k13
    have ⟨k15_0, k15_1, k15_2, k15_3, k15_4⟩ := k15
    go_wp2
    generalize (x5.alloc (.cells #[.int .u32 0, .int .i64 0] 24)).alloc (.cells #[.string ⟨#[]⟩, .bool true] 26) = X5 at *
    generalize x5.heap.size = g5 at *
    go_ret
    exact ⟨rfl, bel⟩

theorem laid_met (os : Os) : laidMet Tryd.prog Rows.ballotBackRow.laid ((World.doorLaid Tryd.prog 24 os).forCall (fun _ _ => 0) ⟨#[], #[.int .u32 0, .int .u8 0, .string ByteArray.empty, .int .u8 0], []⟩).memory :=
  laidMet_of_run' 8 (by kernel_rfl) (by kernel_rfl)
theorem reads (os : Os) {H : Type} (enc : TypeId × Value → H) : ∃ places, DataW.whole enc Tryd.prog ((World.doorLaid Tryd.prog 24 os).forCall (fun _ _ => 0) ⟨#[], #[.int .u32 0, .int .u8 0, .string ByteArray.empty, .int .u8 0], []⟩).memory Tryd.f5.params.toList Rows.ballotBackSpec.vars false (#[.int .u32 0, .int .u8 0, .string ByteArray.empty, .int .u8 0] : Array Value).toList 8 = some ([.lit (.int .u32 0), .lit (.int .u8 0), .lit (.string []), .lit (.int .u8 0)], [], places) :=
  ⟨[], by kernel_rfl⟩

set_option maxRecDepth 100000 in
theorem lifted (os : Os) (started : os.Started) (H : Type) (enc : TypeId × Value → H) (F : Stop.Interp) :
    ReturnsInHanded {} Tryd.checked os 5 .any ((OpenSpec.ofChange Rows.ballotBackSpec).preRow enc Tryd.prog Tryd.f5 Rows.ballotBackRow.domain false Rows.ballotBackRow.laid) (((OpenSpec.ofChange Rows.ballotBackSpec).at F).post enc Tryd.prog Tryd.f5 false true false false) := by
  obtain ⟨places, hx⟩ := reads os enc
  refine returnsInHanded_of_row (C := Tryd.checked) (s := OpenSpec.ofChange Rows.ballotBackSpec) own started (by kernel_rfl) Tryd.func5
    (witness_row_at (enc := enc) (C := Tryd.checked) false (World.doorLaid Tryd.prog 24 os) #[.int .u32 0, .int .u8 0, .string ByteArray.empty, .int .u8 0] rfl (by kernel_rfl) (by kernel_rfl) (by kernel_rfl)
      (OpenSpec.preRow_of_cond 8 hx (by kernel_rfl) (fun k hk => by cases hk) (by kernel_rfl) (laid_met os))) ?_
  intro W base args ds gs before hval0 hW _ _ hsz0 hL _ _
  have hval : ∀ (j : Nat) t v, Tryd.f5.params[j]? = some t → args[j]? = some v → Value.okWide Tryd.prog W .any base t v := hval0
  have hsz : (DataW.weightsEach Tryd.prog (Tryd.f5.params.toList ++ Rows.ballotBackSpec.plain.varTypes Tryd.prog) (ds ++ gs)).all (· ≤ reachBytes) = true := hsz0
  have hW' := hW
  obtain ⟨p, q, hA0, hV, rfl, hfz, hnd⟩ := hW
  have hA : DataW.TrodAll enc Tryd.prog W 0 (fun _ => true) true Tryd.f5.params.toList args.toList ds p := hA0
  rw [Tryd.params5] at hA hval hsz
  obtain ⟨v0, vs0, d0, ds0, p0, q0, hargs, rfl, rfl, h0, r0⟩ := trodAll_cons hA
  obtain ⟨v1, vs1, d1, ds1, p1, q1, rfl, rfl, rfl, h1, r1⟩ := trodAll_cons r0
  obtain ⟨v2, vs2, d2, ds2, p2, q2, rfl, rfl, rfl, h2, r2⟩ := trodAll_cons r1
  obtain ⟨v3, vs3, d3, ds3, p3, q3, rfl, rfl, rfl, h3, r3⟩ := trodAll_cons r2
  obtain ⟨rfl, rfl, rfl⟩ := trodAll_nil r3
  obtain rfl : args = #[v0, v1, v2, v3] := by cases args; simp_all
  obtain ⟨rfl, rfl⟩ := trodVars_none hV
  obtain ⟨a0, rfl, rfl, rfl, w0⟩ := open_int Tryd.underlying22 (hval 0 22 v0 rfl rfl) h0
  obtain ⟨a1, rfl, rfl, rfl, w1⟩ := open_int Tryd.underlying5 (hval 1 5 v1 rfl rfl) h1
  obtain ⟨a2, rfl, rfl, rfl, w2⟩ := open_string Tryd.underlying9 (hval 2 9 v2 rfl rfl) h2
  obtain ⟨a3, rfl, rfl, rfl, w3⟩ := open_int Tryd.underlying5 (hval 3 5 v3 rfl rfl) h3
  clear hA0 hval0
  have z2 : a2.size ≤ 140737488351232 := by
    have := sized_string hsz (j := 2) (t := 9) rfl rfl
    simp only [Array.length_toList, reachBytes] at this
    exact this
  refine (walk a0 a1 a2 a3 W w0 w1 z2 w3 (Bl.tab_of hL)).mono fun e W' ⟨he, bel⟩ => ?_
  subst he
  exact ⟨_, rfl, _, _, _, [], _, [], hW', trodAll_mk1 (shut_bool Tryd.underlying4 _), (trodAll_cons_mk (shut_int Tryd.underlying22 w0) (trodAll_cons_mk (shut_int Tryd.underlying5 w1) (trodAll_cons_mk (shut_string Tryd.underlying9 w2) (trodAll_cons_mk (shut_int Tryd.underlying5 w3) trodAll_mk0)))), rfl, bel.frame _, fun h => by cases h⟩

theorem over : Rows.ballotBackRow.holds Tryd.pinned (OpenSpec.ofChange Rows.ballotBackSpec) :=
  OpenClaim.holds_of_cond 5 Tryd.f5 rfl rfl rfl rfl rfl rfl rfl ⟨rfl, rfl, rfl, rfl, rfl⟩ rfl rfl rfl rfl rfl (by kernel_rfl) Tryd.func5 (by kernel_rfl)
    (of_decide_eq_true (by kernel_rfl)) (by unfold Func.isWrapper; first | (rw [if_pos (by decide +kernel)]; kernel_rfl) | (rw [if_neg (by decide +kernel)]; exact ⟨rfl, rfl⟩))
    (fun os started H enc _ F => by rw [OpenClaim.pre_eq_preRow]; exact lifted os started H enc F)

/-- No parameter wants a stand-in. -/
theorem plain (f : FuncId) (fn : Func) (hf : Tryd.pinned.checked.prog.funcNamed "comitia/comitialaw06.BallotBack" = some f) (hfn : Tryd.pinned.checked.prog.funcs[f]? = some fn) :
    false = Tryd.pinned.checked.prog.looks [] ∧ ∀ (j : Nat) t, fn.params[j]? = some t → Tryd.pinned.checked.prog.wantsStandIn t = false := by
  obtain rfl : f = 5 := Option.some.inj ((show Tryd.prog.funcNamed "comitia/comitialaw06.BallotBack" = some 5 by kernel_rfl).symm.trans hf) |>.symm
  obtain rfl : fn = Tryd.f5 := (Option.some.inj (Tryd.func5.symm.trans hfn)).symm
  refine ⟨by kernel_rfl, fun j t ht => ?_⟩
  rw [Tryd.params5] at ht
  have hm : t ∈ [22, 5, 9, 5] := by simpa using Array.mem_of_getElem? ht
  have hall : ([22, 5, 9, 5].all fun u => !Tryd.prog.wantsStandIn u) = true := by kernel_rfl
  exact (show Tryd.prog.wantsStandIn t = false by simpa using List.all_eq_true.1 hall t hm)

theorem proved : Rows.BallotBackCardSaid :=
  Claim7.holds_tied_plain_at .later [] _ _ _ _ over (fun _ h => by cases h) (by kernel_rfl) (fun _ h => by cases h) ballotBack_row_tie rfl ⟨rfl, rfl⟩ (by kernel_rfl) rfl plain (by kernel_rfl)
end Go.Proofs.YthmadcmoendndaaDoor.ballotBack
