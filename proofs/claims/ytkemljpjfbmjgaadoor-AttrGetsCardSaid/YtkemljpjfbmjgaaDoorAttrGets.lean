/-
  Proved: for every number with a list of pairs, flag, slice of bytes, text, flag, place and byte the law AttrGets returns true and leaves its inputs as they were; the card ties the three tables of the library that the row lists to the text of the program. No condition beyond the form itself (each text at most 2^47 - 4096 bytes; the listed tables start as that text lays them).
-/
import Derived.Test.YtkemljpjfbmjgaaDoorAttrL
import Derived.Test.YtkemljpjfbmjgaaDoorAttrA
import Derived.Test.YtkemljpjfbmjgaaDoorSpan
import Derived.Test.YtkemljpjfbmjgaaDoorBox
import Derived.Test.YtkemljpjfbmjgaaDoorTab
import Derived.Test.YtkemljpjfbmjgaaDoorDepsD
import Derived.Test.YtkemljpjfbmjgaaDoorCards
import Derived.Test.YtkemljpjfbmjgaaDoorTie
import Derived.Deep.DeepHandedRow
import Derived.LaidMore
import Derived.SevenTiedAt
import Derived.WalkKit
import Derived.ProofKit
import Derived.OpenShut
import Derived.ShutString
import Derived.SizedLaws
import Derived.ChangeOld
import Derived.Below
import Derived.Carry
import Derived.Lib.SmallJoins
import Derived.Deep.SlicePairs
import Derived.SliceStrings
import Derived.ChangeSlices
namespace Go.Proofs.YtkemljpjfbmjgaaDoor.attrGets
open Go.ChangeShapes Go.WideShapes Go.ChangeAt Go.RowKit Go.Joins Go.Deep
open Go.ChangeMaps (open_string shut_string)
set_option linter.unusedVariables false

theorem own : ownKnob Tryd.prog.godebug = none := by kernel_rfl
theorem laidOut : laidOutB Tryd.prog = true := by kernel_rfl

set_option maxRecDepth 100000 in
set_option maxHeartbeats 4000000 in
theorem walk (a0_0 : Int) (a0_1 : Option Addr) (len0_1 cap0_1 : Nat) (a0_2 : Bool) (a0_3 : Option Addr) (len0_3 cap0_3 : Nat) (a1 : ByteArray) (a2 : Bool) (a3 : Int) (a4 : Int) (w : World) (w0_0 : (Lit.int .u32 a0_0).wf = true) (w0_1 : ∀ i, i < len0_1 → ∃ (x : Addr) (e0 e1 : Int), a0_1 = some x ∧ x.block < w.heap.size ∧ w.cell? (x.add (i * 2)) = some (.int .i64 e0) ∧ w.cell? (x.add (i * 2 + 1)) = some (.int .i64 e1) ∧ (Lit.int .i64 e0).wf = true ∧ (Lit.int .i64 e1).wf = true) (l0_1 : len0_1 ≤ cap0_1) (m0_1 : cap0_1 ≤ maxLen) (o0_1 : a0_1 = none → cap0_1 = 0) (w0_3 : ∀ i, i < len0_3 → ∃ (x : Addr) (e0 : Int), a0_3 = some x ∧ x.block < w.heap.size ∧ w.cell? (x.add i) = some (.int .u8 e0) ∧ (Lit.int .u8 e0).wf = true) (l0_3 : len0_3 ≤ cap0_3) (m0_3 : cap0_3 ≤ maxLen) (z1 : a1.size ≤ 140737488351232) (w3 : (Lit.int .i64 a3).wf = true) (w4 : (Lit.int .u8 a4).wf = true) (ht : Bl.Tab w) :
    Calls Tryd.prog 4 #[.agg #[.int .u32 a0_0, .slice a0_1 len0_1 cap0_1, .bool a0_2, .slice a0_3 len0_3 cap0_3], .string a1, .bool a2, .int .i64 a3, .int .u8 a4] w fun e w' => e = .returned (.bool true) ∧ Below w.heap.size w w' := by
  obtain ⟨na, rfl, hna⟩ := At.nat_of w0_0
  obtain ⟨ba, rfl, hba⟩ := Dp.Bts.of w0_3
  have TA := Lib.hid hba
  obtain ⟨za, hza⟩ : ∃ z, Hid (Dp.fewD (ba.take 20) = z) := ⟨_, Lib.hid rfl⟩
  obtain ⟨ka, hka⟩ : ∃ k, Hid (na % 5 = k) := ⟨_, Lib.hid rfl⟩
  have FA := At.few_facts hza.out
  have ua : ka < 4294967296 := by have := hka.out; omega
  clear hba w0_0 w0_3 w0_1
  have q3 : -9223372036854775808 ≤ a3 ∧ a3 ≤ 9223372036854775807 := by simpa [Lit.wf, IntKind.min, IntKind.max, IntKind.signed, IntKind.bits] using w3
  have q4 : 0 ≤ a4 ∧ a4 ≤ 255 := by simpa [Lit.wf, IntKind.min, IntKind.max, IntKind.signed, IntKind.bits] using w4
  obtain ⟨by4, rfl⟩ := Int.eq_ofNat_of_zero_le q4.1
  have hby : by4 < 256 := by omega
  obtain ⟨s, hs, hs3⟩ := At.put_yes ka za FA.1 FA.2.2.2
  have hs4 : s.size ≤ 150 := by have := FA.2.1; omega
  have hsum : (s.size : Int) + (a1.size : Int) ≤ 9223372036854775807 := by omega
  have hsum2 : ¬ 9223372036854775807 < s.size + a1.size := by omega
  obtain ⟨u, eu⟩ : ∃ u, s ++ a1 = u := ⟨_, rfl⟩
  have hus : u.size = s.size + a1.size := by rw [← eu, Pk.cat_size]
  have hu2 : u.size ≤ 281474976710656 := by omega
  have HS := Lib.hid hs
  have HT := Lib.hid ht
  have LA := Lib.hid FA.2.1
  have HU := Lib.hid hus
  clear FA ht hs hs3 w3 w4 q4 hus
  go_enter Tryd.func4, Tryd.ntmps4
  go_wp2_with fail
  have RA := Lib.hid (At.row_new w (.int .u32 na) (.slice a0_1 len0_1 cap0_1) (.bool a0_2) (.slice a0_3 ba.length cap0_3) 28)
  have B := Lib.hid (Bl.below_1 w (.cells #[.int .u32 na, .slice a0_1 len0_1 cap0_1, .bool a0_2, .slice a0_3 ba.length cap0_3] 28))
  generalize w.alloc (.cells #[.int .u32 na, .slice a0_1 len0_1 cap0_1, .bool a0_2, .slice a0_3 ba.length cap0_3] 28) = v0 at *
  refine (At.examples_any v0 (HT.out.over B.out)).mono ?_
  rintro e v1 ⟨rfl, hb⟩
  replace RA := Lib.hid (RA.out.over hb)
  replace B := Lib.hid (B.out.trans (hb.mono B.out.size))
  clear hb
  have ⟨ra0, ra1, ra2, ra3, ra4, ra5⟩ := At.row_four RA.out
  cases a2 with
  | false =>
    have hY : a1.size ≤ maxLen := by unfold maxLen; omega
    obtain ⟨⟨n, l⟩, t, c, hg⟩ := Dp.triple (At.getA a1 false)
    go_wp2_with fail
    replace RA := Lib.hid (At.row_own RA.out (.bool true))
    replace B := Lib.hid (At.below_own B.out (k := w.heap.size) (Nat.le_refl _) (.bool true))
    clear ra0 ra1 ra2 ra3 ra4 ra5
    generalize v1.setCell ⟨w.heap.size, 2, none⟩ (.bool true) = w1 at *
    have HL := Lib.hid (At.get_short _ _ _ _ _ _ hg)
    have G := Lib.hid hg
    clear hg
    refine (At.get_any a1 false n l t c G.out hY w1).mono ?_
    rintro e v2 ⟨pb, cb, rfl, ib, hb⟩
    replace RA := Lib.hid (RA.out.over hb)
    replace B := Lib.hid (B.out.trans (hb.mono B.out.size))
    clear hb
    have IB := Lib.hid ib
    clear ib
    go_wp2_with fail
    have hb := Bl.below_2 v2 (.cells #[.int .u32 n, .slice pb l.length cb] 25) (.cells #[.string t, .bool c] 49)
    replace RA := Lib.hid (RA.out.over hb)
    replace IB := Lib.hid (IB.out.kept hb)
    replace B := Lib.hid (B.out.trans (hb.mono B.out.size))
    have PB := Lib.hid ((Bl.Pair.newAt (v2) (.int .u32 n) (.slice pb l.length cb) 25 (v2.heap.size) (by simp)).alloc (.cells #[.string t, .bool c] 49))
    have QB := Lib.hid (Bl.Pair.newAt (v2.alloc (.cells #[.int .u32 n, .slice pb l.length cb] 25)) (.string t) (.bool c) 49 (v2.heap.size + 1) (by simp))
    generalize (v2.alloc (.cells #[.int .u32 n, .slice pb l.length cb] 25)).alloc (.cells #[.string t, .bool c] 49) = v3 at *
    generalize v2.heap.size = g3 at *
    clear hb
    refine (At.refget_any a1 false n l t c G.out hY v3).mono ?_
    rintro e v4 ⟨pd, cd, rfl, id, hb⟩
    replace RA := Lib.hid (RA.out.over hb)
    replace IB := Lib.hid (IB.out.kept hb)
    replace PB := Lib.hid (PB.out.over hb)
    replace QB := Lib.hid (QB.out.over hb)
    replace B := Lib.hid (B.out.trans (hb.mono B.out.size))
    clear hb
    have ID := Lib.hid id
    clear id
    go_wp2_with fail
    have hb := Bl.below_2 v4 (.cells #[.int .u32 n, .slice pd l.length cd] 36) (.cells #[.string t, .bool c] 52)
    replace RA := Lib.hid (RA.out.over hb)
    replace IB := Lib.hid (IB.out.kept hb)
    replace PB := Lib.hid (PB.out.over hb)
    replace QB := Lib.hid (QB.out.over hb)
    replace ID := Lib.hid (ID.out.kept hb)
    replace B := Lib.hid (B.out.trans (hb.mono B.out.size))
    have PD := Lib.hid ((Bl.Pair.newAt (v4) (.int .u32 n) (.slice pd l.length cd) 36 (v4.heap.size) (by simp)).alloc (.cells #[.string t, .bool c] 52))
    have QD := Lib.hid (Bl.Pair.newAt (v4.alloc (.cells #[.int .u32 n, .slice pd l.length cd] 36)) (.string t) (.bool c) 52 (v4.heap.size + 1) (by simp))
    generalize (v4.alloc (.cells #[.int .u32 n, .slice pd l.length cd] 36)).alloc (.cells #[.string t, .bool c] 52) = v5 at *
    generalize v4.heap.size = g5 at *
    clear hb
    have HC : Hid (∀ w', Below v5.heap.size v5 w' → w'.cell? ⟨g3, 0, none⟩ = some (.int .u32 n) ∧ w'.cell? ⟨g3, 1, none⟩ = some (.slice pb l.length cb) ∧ w'.cell? ⟨g3 + 1, 0, none⟩ = some (.string t) ∧ w'.cell? ⟨g3 + 1, 1, none⟩ = some (.bool c) ∧ w'.cell? ⟨g5, 0, none⟩ = some (.int .u32 n) ∧ w'.cell? ⟨g5, 1, none⟩ = some (.slice pd l.length cd) ∧ w'.cell? ⟨g5 + 1, 0, none⟩ = some (.string t) ∧ w'.cell? ⟨g5 + 1, 1, none⟩ = some (.bool c)) := Lib.hid (fun w' h => ⟨(PB.out.over h).2.1, (PB.out.over h).2.2.1, (QB.out.over h).2.1, (QB.out.over h).2.2.1, (PD.out.over h).2.1, (PD.out.over h).2.2.1, (QD.out.over h).2.1, (QD.out.over h).2.2.1⟩)
    have k : Below v5.heap.size v5 v5.drew := (Below.refl _ _).drew
    refine wp_region_held_drew (S := fun w' => w'.cell? ⟨g3, 0, none⟩ = some (.int .u32 n) ∧ w'.cell? ⟨g3, 1, none⟩ = some (.slice pb l.length cb) ∧ w'.cell? ⟨g3 + 1, 0, none⟩ = some (.string t) ∧ w'.cell? ⟨g3 + 1, 1, none⟩ = some (.bool c) ∧ w'.cell? ⟨g5, 0, none⟩ = some (.int .u32 n) ∧ w'.cell? ⟨g5, 1, none⟩ = some (.slice pd l.length cd) ∧ w'.cell? ⟨g5 + 1, 0, none⟩ = some (.string t) ∧ w'.cell? ⟨g5 + 1, 1, none⟩ = some (.bool c)) (by kernel_rfl) (HC.out _ k) (fun hHeld => ?_)
    refine Dp.take_yes (i := 0) (oi := ⟨some 48, _, _, _, _, _⟩) (v := ?_) rfl (by kernel_rfl) (by kernel_rfl) (by kernel_rfl) (fun _ _ _ h => h) (by kernel_rfl) ?_ (by assumption) ?_
    rotate_left
    · (intro w' hSw; (try dsimp only at hSw); first | (go_simp; done) | (go_simp; with_reducible rfl))
    (try simp only [Act.put]); (try simp only [List.setIfInBounds_toArray]); (try simp only [List.set_cons_succ]); (try simp only [List.set_cons_zero])
    refine Dp.take_yes (i := 1) (oi := ⟨some 49, _, _, _, _, _⟩) (v := ?_) rfl (by kernel_rfl) (by kernel_rfl) (by kernel_rfl) (fun _ _ _ h => h) (by kernel_rfl) ?_ (by assumption) ?_
    rotate_left
    · (intro w' hSw; (try dsimp only at hSw); first | (go_simp; done) | (go_simp; with_reducible rfl))
    (try simp only [Act.put]); (try simp only [List.setIfInBounds_toArray]); (try simp only [List.set_cons_succ]); (try simp only [List.set_cons_zero])
    refine Dp.take_yes (i := 2) (oi := ⟨some 50, _, _, _, _, _⟩) (v := ?_) rfl (by kernel_rfl) (by kernel_rfl) (by kernel_rfl) (fun _ _ _ h => h) (by kernel_rfl) ?_ (by assumption) ?_
    rotate_left
    · (intro w' hSw; (try dsimp only at hSw); first | (go_simp; done) | (go_simp; with_reducible rfl))
    (try simp only [Act.put]); (try simp only [List.setIfInBounds_toArray]); (try simp only [List.set_cons_succ]); (try simp only [List.set_cons_zero])
    refine Dp.take_yes (i := 4) (oi := ⟨some 52, _, _, _, _, _⟩) (v := ?_) rfl (by kernel_rfl) (by kernel_rfl) (by kernel_rfl) (fun _ _ _ h => h) (by kernel_rfl) ?_ (by assumption) ?_
    rotate_left
    · (intro w' hSw; (try dsimp only at hSw); first | (go_simp; done) | (go_simp; with_reducible rfl))
    (try simp only [Act.put]); (try simp only [List.setIfInBounds_toArray]); (try simp only [List.set_cons_succ]); (try simp only [List.set_cons_zero])
    refine wpAnyH_ready (rs := [3]) (by kernel_rfl) (by simp) ?_
    refine AllReadyH.cons (o := ⟨some 51, _, _, _, _, _⟩) rfl (fun K hK => ?_) AllReadyH.nil
    go_simp
    go_at_call 13
    refine (At.refattr_any n l pb cb (by have := HL.out; omega) _ (IB.out.kept k).toIds).mono ?_
    rintro e y1 ⟨j1, d1, rfl, ij, hb⟩
    replace k := Dp.keep2 hb k
    clear hb
    (try go_wp2_with fail)
    refine hK.out _ _ (HC.out _ (by assumption)) (fun hHeld2 => ?_)
    clear hK hHeld; have hHeld := hHeld2; clear hHeld2
    (try simp only [Act.put]); (try simp only [List.setIfInBounds_toArray]); (try simp only [List.set_cons_succ]); (try simp only [List.set_cons_zero])
    refine wpAnyH_ready (rs := [5]) (by kernel_rfl) (by simp) ?_
    refine AllReadyH.cons (o := ⟨some 53, _, _, _, _, _⟩) rfl (fun K hK => ?_) AllReadyH.nil
    go_simp
    go_at_call 16
    refine (At.refsame_any n n l l true (decide_eq_true rfl) j1 pd d1 cd _ ij.toIds (ID.out.kept k).toIds).mono ?_
    rintro e y2 ⟨rfl, hb⟩
    replace k := Dp.keep2 hb k
    clear hb
    (try go_wp2_with fail)
    refine hK.out _ _ (HC.out _ (by assumption)) (fun hHeld2 => ?_)
    clear hK hHeld; have hHeld := hHeld2; clear hHeld2
    (try simp only [Act.put]); (try simp only [List.setIfInBounds_toArray]); (try simp only [List.set_cons_succ]); (try simp only [List.set_cons_zero])
    refine Dp.take_yes (i := 6) (oi := ⟨some 54, _, _, _, _, _⟩) (v := ?_) rfl (by kernel_rfl) (by kernel_rfl) (by kernel_rfl) (fun _ _ _ h => h) (by kernel_rfl) ?_ (by assumption) ?_
    rotate_left
    · (intro w' hSw; (try dsimp only at hSw); first | (go_simp; done) | (go_simp; with_reducible rfl))
    (try simp only [Act.put]); (try simp only [List.setIfInBounds_toArray]); (try simp only [List.set_cons_succ]); (try simp only [List.set_cons_zero])
    refine Dp.take_yes (i := 7) (oi := ⟨some 55, _, _, _, _, _⟩) (v := ?_) rfl (by kernel_rfl) (by kernel_rfl) (by kernel_rfl) (fun _ _ _ h => h) (by kernel_rfl) ?_ (by assumption) ?_
    rotate_left
    · (intro w' hSw; (try dsimp only at hSw); first | (go_simp; done) | (go_simp; with_reducible rfl))
    (try simp only [Act.put]); (try simp only [List.setIfInBounds_toArray]); (try simp only [List.set_cons_succ]); (try simp only [List.set_cons_zero])
    refine Dp.take_yes (i := 8) (oi := ⟨some 56, _, _, _, _, _⟩) (v := ?_) rfl (by kernel_rfl) (by kernel_rfl) (by kernel_rfl) (fun _ _ _ h => h) (by kernel_rfl) ?_ (by assumption) ?_
    rotate_left
    · (intro w' hSw; (try dsimp only at hSw); first | (go_simp; done) | (go_simp; with_reducible rfl))
    (try simp only [Act.put]); (try simp only [List.setIfInBounds_toArray]); (try simp only [List.set_cons_succ]); (try simp only [List.set_cons_zero])
    refine Dp.take_yes (i := 9) (oi := ⟨some 57, _, _, _, _, _⟩) (v := ?_) rfl (by kernel_rfl) (by kernel_rfl) (by kernel_rfl) (fun _ _ _ h => h) (by kernel_rfl) ?_ (by assumption) ?_
    rotate_left
    · (intro w' hSw; (try dsimp only at hSw); first | (go_simp; done) | (go_simp; with_reducible rfl))
    (try simp only [Act.put]); (try simp only [List.setIfInBounds_toArray]); (try simp only [List.set_cons_succ]); (try simp only [List.set_cons_zero])
    refine Dp.take_yes (i := 10) (oi := ⟨some 58, _, _, _, _, _⟩) (v := ?_) rfl (by kernel_rfl) (by kernel_rfl) (by kernel_rfl) (fun _ _ _ h => h) (by kernel_rfl) ?_ (by assumption) ?_
    rotate_left
    · (intro w' hSw; (try dsimp only at hSw); first | (go_simp; done) | (go_simp; with_reducible rfl))
    (try simp only [Act.put]); (try simp only [List.setIfInBounds_toArray]); (try simp only [List.set_cons_succ]); (try simp only [List.set_cons_zero])
    refine Dp.take_yes (i := 11) (oi := ⟨some 59, _, _, _, _, _⟩) (v := ?_) rfl (by kernel_rfl) (by kernel_rfl) (by kernel_rfl) (fun _ _ _ h => h) (by kernel_rfl) ?_ (by assumption) ?_
    rotate_left
    · (intro w' hSw; (try dsimp only at hSw); first | (go_simp; done) | (go_simp; with_reducible rfl))
    (try simp only [Act.put]); (try simp only [List.setIfInBounds_toArray]); (try simp only [List.set_cons_succ]); (try simp only [List.set_cons_zero])
    refine Dp.take_yes (i := 12) (oi := ⟨some 60, _, _, _, _, _⟩) (v := ?_) rfl (by kernel_rfl) (by kernel_rfl) (by kernel_rfl) (fun _ _ _ h => h) (by kernel_rfl) ?_ (by assumption) ?_
    rotate_left
    · (intro w' hSw; (try dsimp only at hSw); first | (go_simp; done) | (go_simp; with_reducible rfl))
    (try simp only [Act.put]); (try simp only [List.setIfInBounds_toArray]); (try simp only [List.set_cons_succ]); (try simp only [List.set_cons_zero])
    refine Dp.take_yes (i := 13) (oi := ⟨some 61, _, _, _, _, _⟩) (v := ?_) rfl (by kernel_rfl) (by kernel_rfl) (by kernel_rfl) (fun _ _ _ h => h) (by kernel_rfl) ?_ (by assumption) ?_
    rotate_left
    · (intro w' hSw; (try dsimp only at hSw); first | (go_simp; done) | (go_simp; with_reducible rfl))
    (try simp only [Act.put]); (try simp only [List.setIfInBounds_toArray]); (try simp only [List.set_cons_succ]); (try simp only [List.set_cons_zero])
    refine Dp.take_yes (i := 14) (oi := ⟨some 62, _, _, _, _, _⟩) (v := ?_) rfl (by kernel_rfl) (by kernel_rfl) (by kernel_rfl) (fun _ _ _ h => h) (by kernel_rfl) ?_ (by assumption) ?_
    rotate_left
    · (intro w' hSw; (try dsimp only at hSw); first | (go_simp; done) | (go_simp; with_reducible rfl))
    (try simp only [Act.put]); (try simp only [List.setIfInBounds_toArray]); (try simp only [List.set_cons_succ]); (try simp only [List.set_cons_zero])
    refine Dp.take_yes (i := 15) (oi := ⟨some 63, _, _, _, _, _⟩) (v := ?_) rfl (by kernel_rfl) (by kernel_rfl) (by kernel_rfl) (fun _ _ _ h => h) (by kernel_rfl) ?_ (by assumption) ?_
    rotate_left
    · (intro w' hSw; (try dsimp only at hSw); first | (go_simp; done) | (go_simp; with_reducible rfl))
    (try simp only [Act.put]); (try simp only [List.setIfInBounds_toArray]); (try simp only [List.set_cons_succ]); (try simp only [List.set_cons_zero])
    refine Dp.take_yes (i := 16) (oi := ⟨some 64, _, _, _, _, _⟩) (v := ?_) rfl (by kernel_rfl) (by kernel_rfl) (by kernel_rfl) (fun _ _ _ h => h) (by kernel_rfl) ?_ (by assumption) ?_
    rotate_left
    · (intro w' hSw; (try dsimp only at hSw); first | (go_simp; done) | (go_simp; with_reducible rfl))
    (try simp only [Act.put]); (try simp only [List.setIfInBounds_toArray]); (try simp only [List.set_cons_succ]); (try simp only [List.set_cons_zero])
    refine Dp.take_yes (i := 17) (oi := ⟨some 65, _, _, _, _, _⟩) (v := ?_) rfl (by kernel_rfl) (by kernel_rfl) (by kernel_rfl) (fun _ _ _ h => h) (by kernel_rfl) ?_ (by assumption) ?_
    rotate_left
    · (intro w' hSw; (try dsimp only at hSw); first | (go_simp; done) | (go_simp; with_reducible rfl))
    (try simp only [Act.put]); (try simp only [List.setIfInBounds_toArray]); (try simp only [List.set_cons_succ]); (try simp only [List.set_cons_zero])
    refine Dp.take_yes (i := 18) (oi := ⟨some 66, _, _, _, _, _⟩) (v := ?_) rfl (by kernel_rfl) (by kernel_rfl) (by kernel_rfl) (fun _ _ _ h => h) (by kernel_rfl) ?_ (by assumption) ?_
    rotate_left
    · (intro w' hSw; (try dsimp only at hSw); first | (go_simp; done) | (go_simp; with_reducible rfl))
    (try simp only [Act.put]); (try simp only [List.setIfInBounds_toArray]); (try simp only [List.set_cons_succ]); (try simp only [List.set_cons_zero])
    refine Dp.take_yes (i := 19) (oi := ⟨some 67, _, _, _, _, _⟩) (v := ?_) rfl (by kernel_rfl) (by kernel_rfl) (by kernel_rfl) (fun _ _ _ h => h) (by kernel_rfl) ?_ (by assumption) ?_
    rotate_left
    · (intro w' hSw; (try dsimp only at hSw); first | (go_simp; done) | (go_simp; with_reducible rfl))
    (try simp only [Act.put]); (try simp only [List.setIfInBounds_toArray]); (try simp only [List.set_cons_succ]); (try simp only [List.set_cons_zero])
    refine Dp.take_yes (i := 20) (oi := ⟨some 68, _, _, _, _, _⟩) (v := ?_) rfl (by kernel_rfl) (by kernel_rfl) (by kernel_rfl) (fun _ _ _ h => h) (by kernel_rfl) ?_ (by assumption) ?_
    rotate_left
    · (intro w' hSw; (try dsimp only at hSw); first | (go_simp; done) | (go_simp; with_reducible rfl))
    (try simp only [Act.put]); (try simp only [List.setIfInBounds_toArray]); (try simp only [List.set_cons_succ]); (try simp only [List.set_cons_zero])
    refine Dp.take_yes (i := 21) (oi := ⟨some 10, _, _, _, _, _⟩) (v := ?_) rfl (by kernel_rfl) (by kernel_rfl) (by kernel_rfl) (fun _ _ _ h => h) (by kernel_rfl) ?_ (by assumption) ?_
    rotate_left
    · (intro w' hSw; (try dsimp only at hSw); first | (go_simp; done) | (go_simp; with_reducible rfl))
    (try simp only [Act.put]); (try simp only [List.setIfInBounds_toArray]); (try simp only [List.set_cons_succ]); (try simp only [List.set_cons_zero])
    refine wpAnyH_done (by kernel_rfl) ?_ _
    go_wp2
    go_ret
    exact ⟨rfl, B.out.trans (k.mono B.out.size)⟩
  | true =>
    go_wp2_with fail
    replace RA := Lib.hid (At.row_own RA.out (.bool true))
    replace B := Lib.hid (At.below_own B.out (k := w.heap.size) (Nat.le_refl _) (.bool true))
    clear ra0 ra1 ra2 ra3 ra4 ra5
    generalize v1.setCell ⟨w.heap.size, 2, none⟩ (.bool true) = w1 at *
    refine (At.attr_own na ka hka.out ba za hza.out a0_1 len0_1 cap0_1 a0_3 cap0_3 l0_3 m0_3 w1 (TA.out.kept B.out)).mono ?_
    rintro e v2 ⟨pa, ca, rfl, ia, hb⟩
    replace RA := Lib.hid (RA.out.over hb)
    replace B := Lib.hid (B.out.trans (hb.mono B.out.size))
    clear hb
    have IA := Lib.hid ia
    clear ia
    go_wp2_with fail
    refine (At.refattr_any ka za pa ca (by have := LA.out; omega) v2 IA.out.toIds).mono ?_
    rintro e v3 ⟨pr, cr, rfl, ir, hb⟩
    replace RA := Lib.hid (RA.out.over hb)
    replace IA := Lib.hid (IA.out.kept hb)
    replace B := Lib.hid (B.out.trans (hb.mono B.out.size))
    clear hb
    have IR := Lib.hid ir
    clear ir
    go_wp2_with fail
    refine (At.refput_any ka ua za s true HS.out (by have := LA.out; omega) pr cr v3 IR.out.toIds).mono ?_
    rintro e v4 ⟨rfl, hb⟩
    replace RA := Lib.hid (RA.out.over hb)
    replace IA := Lib.hid (IA.out.kept hb)
    replace IR := Lib.hid (IR.out.kept hb)
    replace B := Lib.hid (B.out.trans (hb.mono B.out.size))
    clear hb
    go_wp2_with fail
    refine (Dp.bend_any u a3 by4 hby q3 hu2 v4).mono ?_
    rintro e v5 ⟨y, rfl, hys, hb⟩
    replace RA := Lib.hid (RA.out.over hb)
    replace IA := Lib.hid (IA.out.kept hb)
    replace IR := Lib.hid (IR.out.kept hb)
    replace B := Lib.hid (B.out.trans (hb.mono B.out.size))
    clear hb
    have hY : y.size ≤ maxLen := by rw [hys]; unfold maxLen; omega
    clear hys
    obtain ⟨⟨n, l⟩, t, c, hg⟩ := Dp.triple (At.getA y false)
    have HL := Lib.hid (At.get_short _ _ _ _ _ _ hg)
    have G := Lib.hid hg
    clear hg
    go_wp2_with fail
    refine (At.get_any y false n l t c G.out hY v5).mono ?_
    rintro e v6 ⟨pb, cb, rfl, ib, hb⟩
    replace RA := Lib.hid (RA.out.over hb)
    replace IA := Lib.hid (IA.out.kept hb)
    replace IR := Lib.hid (IR.out.kept hb)
    replace B := Lib.hid (B.out.trans (hb.mono B.out.size))
    clear hb
    have IB := Lib.hid ib
    clear ib
    go_wp2_with fail
    have hb := Bl.below_2 v6 (.cells #[.int .u32 n, .slice pb l.length cb] 25) (.cells #[.string t, .bool c] 49)
    replace RA := Lib.hid (RA.out.over hb)
    replace IA := Lib.hid (IA.out.kept hb)
    replace IR := Lib.hid (IR.out.kept hb)
    replace IB := Lib.hid (IB.out.kept hb)
    replace B := Lib.hid (B.out.trans (hb.mono B.out.size))
    have PB := Lib.hid ((Bl.Pair.newAt (v6) (.int .u32 n) (.slice pb l.length cb) 25 (v6.heap.size) (by simp)).alloc (.cells #[.string t, .bool c] 49))
    have QB := Lib.hid (Bl.Pair.newAt (v6.alloc (.cells #[.int .u32 n, .slice pb l.length cb] 25)) (.string t) (.bool c) 49 (v6.heap.size + 1) (by simp))
    generalize (v6.alloc (.cells #[.int .u32 n, .slice pb l.length cb] 25)).alloc (.cells #[.string t, .bool c] 49) = v7 at *
    generalize v6.heap.size = g7 at *
    clear hb
    refine (At.refget_any y false n l t c G.out hY v7).mono ?_
    rintro e v8 ⟨pd, cd, rfl, id, hb⟩
    replace RA := Lib.hid (RA.out.over hb)
    replace IA := Lib.hid (IA.out.kept hb)
    replace IR := Lib.hid (IR.out.kept hb)
    replace IB := Lib.hid (IB.out.kept hb)
    replace PB := Lib.hid (PB.out.over hb)
    replace QB := Lib.hid (QB.out.over hb)
    replace B := Lib.hid (B.out.trans (hb.mono B.out.size))
    clear hb
    have ID := Lib.hid id
    clear id
    go_wp2_with fail
    have hb := Bl.below_2 v8 (.cells #[.int .u32 n, .slice pd l.length cd] 36) (.cells #[.string t, .bool c] 52)
    replace RA := Lib.hid (RA.out.over hb)
    replace IA := Lib.hid (IA.out.kept hb)
    replace IR := Lib.hid (IR.out.kept hb)
    replace IB := Lib.hid (IB.out.kept hb)
    replace PB := Lib.hid (PB.out.over hb)
    replace QB := Lib.hid (QB.out.over hb)
    replace ID := Lib.hid (ID.out.kept hb)
    replace B := Lib.hid (B.out.trans (hb.mono B.out.size))
    have PD := Lib.hid ((Bl.Pair.newAt (v8) (.int .u32 n) (.slice pd l.length cd) 36 (v8.heap.size) (by simp)).alloc (.cells #[.string t, .bool c] 52))
    have QD := Lib.hid (Bl.Pair.newAt (v8.alloc (.cells #[.int .u32 n, .slice pd l.length cd] 36)) (.string t) (.bool c) 52 (v8.heap.size + 1) (by simp))
    generalize (v8.alloc (.cells #[.int .u32 n, .slice pd l.length cd] 36)).alloc (.cells #[.string t, .bool c] 52) = v9 at *
    generalize v8.heap.size = g9 at *
    clear hb
    have HC : Hid (∀ w', Below v9.heap.size v9 w' → w'.cell? ⟨g7, 0, none⟩ = some (.int .u32 n) ∧ w'.cell? ⟨g7, 1, none⟩ = some (.slice pb l.length cb) ∧ w'.cell? ⟨g7 + 1, 0, none⟩ = some (.string t) ∧ w'.cell? ⟨g7 + 1, 1, none⟩ = some (.bool c) ∧ w'.cell? ⟨g9, 0, none⟩ = some (.int .u32 n) ∧ w'.cell? ⟨g9, 1, none⟩ = some (.slice pd l.length cd) ∧ w'.cell? ⟨g9 + 1, 0, none⟩ = some (.string t) ∧ w'.cell? ⟨g9 + 1, 1, none⟩ = some (.bool c)) := Lib.hid (fun w' h => ⟨(PB.out.over h).2.1, (PB.out.over h).2.2.1, (QB.out.over h).2.1, (QB.out.over h).2.2.1, (PD.out.over h).2.1, (PD.out.over h).2.2.1, (QD.out.over h).2.1, (QD.out.over h).2.2.1⟩)
    have k : Below v9.heap.size v9 v9.drew := (Below.refl _ _).drew
    refine wp_region_held_drew (S := fun w' => w'.cell? ⟨g7, 0, none⟩ = some (.int .u32 n) ∧ w'.cell? ⟨g7, 1, none⟩ = some (.slice pb l.length cb) ∧ w'.cell? ⟨g7 + 1, 0, none⟩ = some (.string t) ∧ w'.cell? ⟨g7 + 1, 1, none⟩ = some (.bool c) ∧ w'.cell? ⟨g9, 0, none⟩ = some (.int .u32 n) ∧ w'.cell? ⟨g9, 1, none⟩ = some (.slice pd l.length cd) ∧ w'.cell? ⟨g9 + 1, 0, none⟩ = some (.string t) ∧ w'.cell? ⟨g9 + 1, 1, none⟩ = some (.bool c)) (by kernel_rfl) (HC.out _ k) (fun hHeld => ?_)
    refine Dp.take_yes (i := 0) (oi := ⟨some 48, _, _, _, _, _⟩) (v := ?_) rfl (by kernel_rfl) (by kernel_rfl) (by kernel_rfl) (fun _ _ _ h => h) (by kernel_rfl) ?_ (by assumption) ?_
    rotate_left
    · (intro w' hSw; (try dsimp only at hSw); first | (go_simp; done) | (go_simp; with_reducible rfl))
    (try simp only [Act.put]); (try simp only [List.setIfInBounds_toArray]); (try simp only [List.set_cons_succ]); (try simp only [List.set_cons_zero])
    refine Dp.take_yes (i := 1) (oi := ⟨some 49, _, _, _, _, _⟩) (v := ?_) rfl (by kernel_rfl) (by kernel_rfl) (by kernel_rfl) (fun _ _ _ h => h) (by kernel_rfl) ?_ (by assumption) ?_
    rotate_left
    · (intro w' hSw; (try dsimp only at hSw); first | (go_simp; done) | (go_simp; with_reducible rfl))
    (try simp only [Act.put]); (try simp only [List.setIfInBounds_toArray]); (try simp only [List.set_cons_succ]); (try simp only [List.set_cons_zero])
    refine Dp.take_yes (i := 2) (oi := ⟨some 50, _, _, _, _, _⟩) (v := ?_) rfl (by kernel_rfl) (by kernel_rfl) (by kernel_rfl) (fun _ _ _ h => h) (by kernel_rfl) ?_ (by assumption) ?_
    rotate_left
    · (intro w' hSw; (try dsimp only at hSw); first | (go_simp; done) | (go_simp; with_reducible rfl))
    (try simp only [Act.put]); (try simp only [List.setIfInBounds_toArray]); (try simp only [List.set_cons_succ]); (try simp only [List.set_cons_zero])
    refine Dp.take_yes (i := 4) (oi := ⟨some 52, _, _, _, _, _⟩) (v := ?_) rfl (by kernel_rfl) (by kernel_rfl) (by kernel_rfl) (fun _ _ _ h => h) (by kernel_rfl) ?_ (by assumption) ?_
    rotate_left
    · (intro w' hSw; (try dsimp only at hSw); first | (go_simp; done) | (go_simp; with_reducible rfl))
    (try simp only [Act.put]); (try simp only [List.setIfInBounds_toArray]); (try simp only [List.set_cons_succ]); (try simp only [List.set_cons_zero])
    refine wpAnyH_ready (rs := [3]) (by kernel_rfl) (by simp) ?_
    refine AllReadyH.cons (o := ⟨some 51, _, _, _, _, _⟩) rfl (fun K hK => ?_) AllReadyH.nil
    go_simp
    go_at_call 13
    refine (At.refattr_any n l pb cb (by have := HL.out; omega) _ (IB.out.kept k).toIds).mono ?_
    rintro e y1 ⟨j1, d1, rfl, ij, hb⟩
    replace k := Dp.keep2 hb k
    clear hb
    (try go_wp2_with fail)
    refine hK.out _ _ (HC.out _ (by assumption)) (fun hHeld2 => ?_)
    clear hK hHeld; have hHeld := hHeld2; clear hHeld2
    (try simp only [Act.put]); (try simp only [List.setIfInBounds_toArray]); (try simp only [List.set_cons_succ]); (try simp only [List.set_cons_zero])
    refine wpAnyH_ready (rs := [5]) (by kernel_rfl) (by simp) ?_
    refine AllReadyH.cons (o := ⟨some 53, _, _, _, _, _⟩) rfl (fun K hK => ?_) AllReadyH.nil
    go_simp
    go_at_call 16
    refine (At.refsame_any n n l l true (decide_eq_true rfl) j1 pd d1 cd _ ij.toIds (ID.out.kept k).toIds).mono ?_
    rintro e y2 ⟨rfl, hb⟩
    replace k := Dp.keep2 hb k
    clear hb
    (try go_wp2_with fail)
    refine hK.out _ _ (HC.out _ (by assumption)) (fun hHeld2 => ?_)
    clear hK hHeld; have hHeld := hHeld2; clear hHeld2
    (try simp only [Act.put]); (try simp only [List.setIfInBounds_toArray]); (try simp only [List.set_cons_succ]); (try simp only [List.set_cons_zero])
    refine Dp.take_yes (i := 6) (oi := ⟨some 54, _, _, _, _, _⟩) (v := ?_) rfl (by kernel_rfl) (by kernel_rfl) (by kernel_rfl) (fun _ _ _ h => h) (by kernel_rfl) ?_ (by assumption) ?_
    rotate_left
    · (intro w' hSw; (try dsimp only at hSw); first | (go_simp; done) | (go_simp; with_reducible rfl))
    (try simp only [Act.put]); (try simp only [List.setIfInBounds_toArray]); (try simp only [List.set_cons_succ]); (try simp only [List.set_cons_zero])
    refine Dp.take_yes (i := 7) (oi := ⟨some 55, _, _, _, _, _⟩) (v := ?_) rfl (by kernel_rfl) (by kernel_rfl) (by kernel_rfl) (fun _ _ _ h => h) (by kernel_rfl) ?_ (by assumption) ?_
    rotate_left
    · (intro w' hSw; (try dsimp only at hSw); first | (go_simp; done) | (go_simp; with_reducible rfl))
    (try simp only [Act.put]); (try simp only [List.setIfInBounds_toArray]); (try simp only [List.set_cons_succ]); (try simp only [List.set_cons_zero])
    refine Dp.take_yes (i := 8) (oi := ⟨some 56, _, _, _, _, _⟩) (v := ?_) rfl (by kernel_rfl) (by kernel_rfl) (by kernel_rfl) (fun _ _ _ h => h) (by kernel_rfl) ?_ (by assumption) ?_
    rotate_left
    · (intro w' hSw; (try dsimp only at hSw); first | (go_simp; done) | (go_simp; with_reducible rfl))
    (try simp only [Act.put]); (try simp only [List.setIfInBounds_toArray]); (try simp only [List.set_cons_succ]); (try simp only [List.set_cons_zero])
    refine Dp.take_yes (i := 9) (oi := ⟨some 57, _, _, _, _, _⟩) (v := ?_) rfl (by kernel_rfl) (by kernel_rfl) (by kernel_rfl) (fun _ _ _ h => h) (by kernel_rfl) ?_ (by assumption) ?_
    rotate_left
    · (intro w' hSw; (try dsimp only at hSw); first | (go_simp; done) | (go_simp; with_reducible rfl))
    (try simp only [Act.put]); (try simp only [List.setIfInBounds_toArray]); (try simp only [List.set_cons_succ]); (try simp only [List.set_cons_zero])
    refine Dp.take_yes (i := 10) (oi := ⟨some 58, _, _, _, _, _⟩) (v := ?_) rfl (by kernel_rfl) (by kernel_rfl) (by kernel_rfl) (fun _ _ _ h => h) (by kernel_rfl) ?_ (by assumption) ?_
    rotate_left
    · (intro w' hSw; (try dsimp only at hSw); first | (go_simp; done) | (go_simp; with_reducible rfl))
    (try simp only [Act.put]); (try simp only [List.setIfInBounds_toArray]); (try simp only [List.set_cons_succ]); (try simp only [List.set_cons_zero])
    refine Dp.take_yes (i := 11) (oi := ⟨some 59, _, _, _, _, _⟩) (v := ?_) rfl (by kernel_rfl) (by kernel_rfl) (by kernel_rfl) (fun _ _ _ h => h) (by kernel_rfl) ?_ (by assumption) ?_
    rotate_left
    · (intro w' hSw; (try dsimp only at hSw); first | (go_simp; done) | (go_simp; with_reducible rfl))
    (try simp only [Act.put]); (try simp only [List.setIfInBounds_toArray]); (try simp only [List.set_cons_succ]); (try simp only [List.set_cons_zero])
    refine Dp.take_yes (i := 12) (oi := ⟨some 60, _, _, _, _, _⟩) (v := ?_) rfl (by kernel_rfl) (by kernel_rfl) (by kernel_rfl) (fun _ _ _ h => h) (by kernel_rfl) ?_ (by assumption) ?_
    rotate_left
    · (intro w' hSw; (try dsimp only at hSw); first | (go_simp; done) | (go_simp; with_reducible rfl))
    (try simp only [Act.put]); (try simp only [List.setIfInBounds_toArray]); (try simp only [List.set_cons_succ]); (try simp only [List.set_cons_zero])
    refine Dp.take_yes (i := 13) (oi := ⟨some 61, _, _, _, _, _⟩) (v := ?_) rfl (by kernel_rfl) (by kernel_rfl) (by kernel_rfl) (fun _ _ _ h => h) (by kernel_rfl) ?_ (by assumption) ?_
    rotate_left
    · (intro w' hSw; (try dsimp only at hSw); first | (go_simp; done) | (go_simp; with_reducible rfl))
    (try simp only [Act.put]); (try simp only [List.setIfInBounds_toArray]); (try simp only [List.set_cons_succ]); (try simp only [List.set_cons_zero])
    refine Dp.take_yes (i := 14) (oi := ⟨some 62, _, _, _, _, _⟩) (v := ?_) rfl (by kernel_rfl) (by kernel_rfl) (by kernel_rfl) (fun _ _ _ h => h) (by kernel_rfl) ?_ (by assumption) ?_
    rotate_left
    · (intro w' hSw; (try dsimp only at hSw); first | (go_simp; done) | (go_simp; with_reducible rfl))
    (try simp only [Act.put]); (try simp only [List.setIfInBounds_toArray]); (try simp only [List.set_cons_succ]); (try simp only [List.set_cons_zero])
    refine Dp.take_yes (i := 15) (oi := ⟨some 63, _, _, _, _, _⟩) (v := ?_) rfl (by kernel_rfl) (by kernel_rfl) (by kernel_rfl) (fun _ _ _ h => h) (by kernel_rfl) ?_ (by assumption) ?_
    rotate_left
    · (intro w' hSw; (try dsimp only at hSw); first | (go_simp; done) | (go_simp; with_reducible rfl))
    (try simp only [Act.put]); (try simp only [List.setIfInBounds_toArray]); (try simp only [List.set_cons_succ]); (try simp only [List.set_cons_zero])
    refine Dp.take_yes (i := 16) (oi := ⟨some 64, _, _, _, _, _⟩) (v := ?_) rfl (by kernel_rfl) (by kernel_rfl) (by kernel_rfl) (fun _ _ _ h => h) (by kernel_rfl) ?_ (by assumption) ?_
    rotate_left
    · (intro w' hSw; (try dsimp only at hSw); first | (go_simp; done) | (go_simp; with_reducible rfl))
    (try simp only [Act.put]); (try simp only [List.setIfInBounds_toArray]); (try simp only [List.set_cons_succ]); (try simp only [List.set_cons_zero])
    refine Dp.take_yes (i := 17) (oi := ⟨some 65, _, _, _, _, _⟩) (v := ?_) rfl (by kernel_rfl) (by kernel_rfl) (by kernel_rfl) (fun _ _ _ h => h) (by kernel_rfl) ?_ (by assumption) ?_
    rotate_left
    · (intro w' hSw; (try dsimp only at hSw); first | (go_simp; done) | (go_simp; with_reducible rfl))
    (try simp only [Act.put]); (try simp only [List.setIfInBounds_toArray]); (try simp only [List.set_cons_succ]); (try simp only [List.set_cons_zero])
    refine Dp.take_yes (i := 18) (oi := ⟨some 66, _, _, _, _, _⟩) (v := ?_) rfl (by kernel_rfl) (by kernel_rfl) (by kernel_rfl) (fun _ _ _ h => h) (by kernel_rfl) ?_ (by assumption) ?_
    rotate_left
    · (intro w' hSw; (try dsimp only at hSw); first | (go_simp; done) | (go_simp; with_reducible rfl))
    (try simp only [Act.put]); (try simp only [List.setIfInBounds_toArray]); (try simp only [List.set_cons_succ]); (try simp only [List.set_cons_zero])
    refine Dp.take_yes (i := 19) (oi := ⟨some 67, _, _, _, _, _⟩) (v := ?_) rfl (by kernel_rfl) (by kernel_rfl) (by kernel_rfl) (fun _ _ _ h => h) (by kernel_rfl) ?_ (by assumption) ?_
    rotate_left
    · (intro w' hSw; (try dsimp only at hSw); first | (go_simp; done) | (go_simp; with_reducible rfl))
    (try simp only [Act.put]); (try simp only [List.setIfInBounds_toArray]); (try simp only [List.set_cons_succ]); (try simp only [List.set_cons_zero])
    refine Dp.take_yes (i := 20) (oi := ⟨some 68, _, _, _, _, _⟩) (v := ?_) rfl (by kernel_rfl) (by kernel_rfl) (by kernel_rfl) (fun _ _ _ h => h) (by kernel_rfl) ?_ (by assumption) ?_
    rotate_left
    · (intro w' hSw; (try dsimp only at hSw); first | (go_simp; done) | (go_simp; with_reducible rfl))
    (try simp only [Act.put]); (try simp only [List.setIfInBounds_toArray]); (try simp only [List.set_cons_succ]); (try simp only [List.set_cons_zero])
    refine Dp.take_yes (i := 21) (oi := ⟨some 10, _, _, _, _, _⟩) (v := ?_) rfl (by kernel_rfl) (by kernel_rfl) (by kernel_rfl) (fun _ _ _ h => h) (by kernel_rfl) ?_ (by assumption) ?_
    rotate_left
    · (intro w' hSw; (try dsimp only at hSw); first | (go_simp; done) | (go_simp; with_reducible rfl))
    (try simp only [Act.put]); (try simp only [List.setIfInBounds_toArray]); (try simp only [List.set_cons_succ]); (try simp only [List.set_cons_zero])
    refine wpAnyH_done (by kernel_rfl) ?_ _
    go_wp2
    go_ret
    exact ⟨rfl, B.out.trans (k.mono B.out.size)⟩

theorem laid_met (os : Os) : laidMet Tryd.prog Rows.attrGetsRow.laid ((World.doorLaid Tryd.prog 24 os).forCall (fun _ _ => 0) ⟨#[], #[.agg #[.int .u32 0, .slice none 0 0, .bool false, .slice none 0 0], .string ByteArray.empty, .bool false, .int .i64 0, .int .u8 0], []⟩).memory :=
  laidMet_of_run' 8 (by kernel_rfl) (by kernel_rfl)
theorem reads (os : Os) {H : Type} (enc : TypeId × Value → H) : ∃ places, DataW.whole enc Tryd.prog ((World.doorLaid Tryd.prog 24 os).forCall (fun _ _ => 0) ⟨#[], #[.agg #[.int .u32 0, .slice none 0 0, .bool false, .slice none 0 0], .string ByteArray.empty, .bool false, .int .i64 0, .int .u8 0], []⟩).memory Tryd.f4.params.toList Rows.attrGetsSpec.vars false (#[.agg #[.int .u32 0, .slice none 0 0, .bool false, .slice none 0 0], .string ByteArray.empty, .bool false, .int .i64 0, .int .u8 0] : Array Value).toList 8 = some ([.agg [.agg [.lit (.int .u32 0), .nil], .lit (.bool false), .nil], .lit (.string []), .lit (.bool false), .lit (.int .i64 0), .lit (.int .u8 0)], [], places) :=
  ⟨[], by kernel_rfl⟩

set_option maxRecDepth 100000 in
theorem lifted (os : Os) (started : os.Started) (H : Type) (enc : TypeId × Value → H) (F : Stop.Interp) :
    ReturnsInHanded {} Tryd.checked os 4 .any ((OpenSpec.ofChange Rows.attrGetsSpec).preRow enc Tryd.prog Tryd.f4 Rows.attrGetsRow.domain false Rows.attrGetsRow.laid) (((OpenSpec.ofChange Rows.attrGetsSpec).at F).post enc Tryd.prog Tryd.f4 false true false false) := by
  obtain ⟨places, hx⟩ := reads os enc
  refine returnsInHanded_of_row (C := Tryd.checked) (s := OpenSpec.ofChange Rows.attrGetsSpec) own started (by kernel_rfl) Tryd.func4
    (witness_row_at (enc := enc) (C := Tryd.checked) false (World.doorLaid Tryd.prog 24 os) #[.agg #[.int .u32 0, .slice none 0 0, .bool false, .slice none 0 0], .string ByteArray.empty, .bool false, .int .i64 0, .int .u8 0] rfl (by kernel_rfl) (by kernel_rfl) (by kernel_rfl)
      (OpenSpec.preRow_of_cond 8 hx (by kernel_rfl) (fun k hk => by cases hk) (by kernel_rfl) (laid_met os))) ?_
  intro W base args ds gs before hval0 hW _ _ hsz0 hL _ _
  have hval : ∀ (j : Nat) t v, Tryd.f4.params[j]? = some t → args[j]? = some v → Value.okWide Tryd.prog W .any base t v := hval0
  have hsz : (DataW.weightsEach Tryd.prog (Tryd.f4.params.toList ++ Rows.attrGetsSpec.plain.varTypes Tryd.prog) (ds ++ gs)).all (· ≤ reachBytes) = true := hsz0
  have hW' := hW
  obtain ⟨p, q, hA0, hV, rfl, hfz, hnd⟩ := hW
  have hA : DataW.TrodAll enc Tryd.prog W 0 (fun _ => true) true Tryd.f4.params.toList args.toList ds p := hA0
  rw [Tryd.params4] at hA hval hsz
  obtain ⟨v0, vs0, d0, ds0, p0, q0, hargs, rfl, rfl, h0, r0⟩ := trodAll_cons hA
  obtain ⟨v1, vs1, d1, ds1, p1, q1, rfl, rfl, rfl, h1, r1⟩ := trodAll_cons r0
  obtain ⟨v2, vs2, d2, ds2, p2, q2, rfl, rfl, rfl, h2, r2⟩ := trodAll_cons r1
  obtain ⟨v3, vs3, d3, ds3, p3, q3, rfl, rfl, rfl, h3, r3⟩ := trodAll_cons r2
  obtain ⟨v4, vs4, d4, ds4, p4, q4, rfl, rfl, rfl, h4, r4⟩ := trodAll_cons r3
  obtain ⟨rfl, rfl, rfl⟩ := trodAll_nil r4
  obtain rfl : args = #[v0, v1, v2, v3, v4] := by cases args; simp_all
  obtain ⟨rfl, rfl⟩ := trodVars_none hV
  have k0 := h0
  have lt0 : ∀ x ∈ p0, x.block < W.heap.size := by obtain ⟨m, hm⟩ := k0; exact DataW.trod_lt m _ _ _ hm
  obtain ⟨c0_0, c0_1, c0_2, c0_3, y0_0, y0_1, y0_2, y0_3, n0, m0, rfl, rfl, g0_0, g0_1, g0_2, g0_3⟩ := Rw.open_nest2 Tryd.underlying28 Tryd.underlying25 rfl rfl rfl (by kernel_rfl) (by kernel_rfl) (by kernel_rfl) (by kernel_rfl) (by kernel_rfl) (hval 0 28 v0 rfl rfl) h0
  obtain ⟨a0_0, e0_0, rfl, w0_0⟩ := DataW.trod_int Tryd.underlying22 g0_0
  obtain rfl : c0_0 = .int .u32 a0_0 := by simpa using e0_0
  obtain ⟨a0_1, len0_1, cap0_1, e0_1, w0_1, l0_1, m0_1, o0_1⟩ := Rw.pairs_of Tryd.underlying23 Tryd.underlying58 (by kernel_rfl) rfl rfl (by kernel_rfl) (by kernel_rfl) Tryd.underlying3 Tryd.underlying3 g0_1
  obtain rfl : c0_1 = .slice a0_1 len0_1 cap0_1 := e0_1
  obtain ⟨a0_2, e0_2, rfl⟩ := DataW.trod_bool Tryd.underlying4 g0_2
  obtain rfl : c0_2 = .bool a0_2 := by simpa using e0_2
  obtain ⟨a0_3, len0_3, cap0_3, e0_3, w0_3, l0_3, m0_3⟩ := Rw.ints_of Tryd.underlying26 Tryd.underlying5 (by kernel_rfl) g0_3
  obtain rfl : c0_3 = .slice a0_3 len0_3 cap0_3 := e0_3
  obtain ⟨a1, rfl, rfl, rfl, w1⟩ := open_string Tryd.underlying9 (hval 1 9 v1 rfl rfl) h1
  obtain ⟨a2, rfl, rfl, rfl⟩ := open_bool Tryd.underlying4 (hval 2 4 v2 rfl rfl) h2
  obtain ⟨a3, rfl, rfl, rfl, w3⟩ := open_int Tryd.underlying3 (hval 3 3 v3 rfl rfl) h3
  obtain ⟨a4, rfl, rfl, rfl, w4⟩ := open_int Tryd.underlying5 (hval 4 5 v4 rfl rfl) h4
  clear hA0 hval0
  have z1 : a1.size ≤ 140737488351232 := by
    have := sized_string hsz (j := 1) (t := 9) rfl rfl
    simp only [Array.length_toList, reachBytes] at this
    exact this
  refine (walk a0_0 a0_1 len0_1 cap0_1 a0_2 a0_3 len0_3 cap0_3 a1 a2 a3 a4 W w0_0 w0_1 l0_1 m0_1 o0_1 w0_3 l0_3 m0_3 z1 w3 w4 (Bl.tab_of hL)).mono fun e W' ⟨he, bel⟩ => ?_
  subst he
  exact ⟨_, rfl, _, _, _, [], _, [], hW', trodAll_mk1 (shut_bool Tryd.underlying4 _), (trodAll_cons_mk (Below.trod laidOut (by kernel_rfl) (of_decide_eq_true (by kernel_rfl)) k0 bel lt0) (trodAll_cons_mk (shut_string Tryd.underlying9 w1) (trodAll_cons_mk (shut_bool Tryd.underlying4 _) (trodAll_cons_mk (shut_int Tryd.underlying3 w3) (trodAll_cons_mk (shut_int Tryd.underlying5 w4) trodAll_mk0))))), rfl, bel.frame _, fun h => by cases h⟩

theorem over : Rows.attrGetsRow.holds Tryd.pinned (OpenSpec.ofChange Rows.attrGetsSpec) :=
  OpenClaim.holds_of_cond 4 Tryd.f4 rfl rfl rfl rfl rfl rfl rfl ⟨rfl, rfl, rfl, rfl, rfl⟩ rfl rfl rfl rfl rfl (by kernel_rfl) Tryd.func4 (by kernel_rfl)
    (of_decide_eq_true (by kernel_rfl)) (by unfold Func.isWrapper; first | (rw [if_pos (by decide +kernel)]; kernel_rfl) | (rw [if_neg (by decide +kernel)]; exact ⟨rfl, rfl⟩))
    (fun os started H enc _ F => by rw [OpenClaim.pre_eq_preRow]; exact lifted os started H enc F)

/-- No parameter wants a stand-in. -/
theorem plain (f : FuncId) (fn : Func) (hf : Tryd.pinned.checked.prog.funcNamed "comitia/comitialaw09.AttrGets" = some f) (hfn : Tryd.pinned.checked.prog.funcs[f]? = some fn) :
    false = Tryd.pinned.checked.prog.looks [] ∧ ∀ (j : Nat) t, fn.params[j]? = some t → Tryd.pinned.checked.prog.wantsStandIn t = false := by
  obtain rfl : f = 4 := Option.some.inj ((show Tryd.prog.funcNamed "comitia/comitialaw09.AttrGets" = some 4 by kernel_rfl).symm.trans hf) |>.symm
  obtain rfl : fn = Tryd.f4 := (Option.some.inj (Tryd.func4.symm.trans hfn)).symm
  refine ⟨by kernel_rfl, fun j t ht => ?_⟩
  rw [Tryd.params4] at ht
  have hm : t ∈ [28, 9, 4, 3, 5] := by simpa using Array.mem_of_getElem? ht
  have hall : ([28, 9, 4, 3, 5].all fun u => !Tryd.prog.wantsStandIn u) = true := by kernel_rfl
  exact (show Tryd.prog.wantsStandIn t = false by simpa using List.all_eq_true.1 hall t hm)

theorem proved : Rows.AttrGetsCardSaid :=
  Claim7.holds_tied_plain_at .later [] _ _ _ _ over (fun _ h => by cases h) (by kernel_rfl) (fun _ h => by cases h) attrGets_row_tie rfl ⟨rfl, rfl⟩ (by kernel_rfl) rfl plain (by kernel_rfl)
end Go.Proofs.YtkemljpjfbmjgaaDoor.attrGets
