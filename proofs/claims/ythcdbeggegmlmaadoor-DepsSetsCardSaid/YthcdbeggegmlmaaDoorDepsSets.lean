/-
  Proved: for every two slices of bytes, an instance, a bool and a list of instances the law DepsSets returns true and leaves its inputs as they were; the card ties the three tables of the library that the row lists to the text of the program. No condition beyond the form itself (each text at most 2^47 - 4096 bytes; the listed tables start as that text lays them).
-/
import Derived.Test.YthcdbeggegmlmaaDoorDepsE
import Derived.Test.YthcdbeggegmlmaaDoorDepsK
import Derived.Test.YthcdbeggegmlmaaDoorDepsS
import Derived.Test.YthcdbeggegmlmaaDoorDepsZ
import Derived.Test.YthcdbeggegmlmaaDoorDepsQ
import Derived.Test.YthcdbeggegmlmaaDoorDepsR
import Derived.Test.YthcdbeggegmlmaaDoorBox
import Derived.Test.YthcdbeggegmlmaaDoorTab
import Derived.Test.YthcdbeggegmlmaaDoorPair
import Derived.Test.YthcdbeggegmlmaaDoorCards
import Derived.Test.YthcdbeggegmlmaaDoorTie
import Derived.Deep.DeepHandedRow
import Derived.LaidMore
import Derived.SevenTiedAt
import Derived.WalkKit
import Derived.ProofKit
import Derived.OpenShut
import Derived.ShutString
import Derived.SizedLaws
import Derived.ChangeOld
import Derived.Below
import Derived.Carry
import Derived.Lib.SmallJoins
import Derived.Deep.SlicePairs
import Derived.SliceStrings
import Derived.ChangeSlices
namespace Go.Proofs.YthcdbeggegmlmaaDoor.depsSets
open Go.ChangeShapes Go.WideShapes Go.ChangeAt Go.RowKit Go.Joins Go.Deep
open Go.ChangeMaps (open_string shut_string)
set_option linter.unusedVariables false

theorem own : ownKnob Tryd.prog.godebug = none := by kernel_rfl
theorem laidOut : laidOutB Tryd.prog = true := by kernel_rfl

theorem few_facts {bs : List Nat} {z : List Dp.ID} (h : Dp.fewD (bs.take 20) = z) : Dp.IsSet z ∧ z.length ≤ 36 ∧ Dp.InR z ∧ (∀ x ∈ z, 0 ≤ x.1 ∧ 0 ≤ x.2) := by
  subst h
  refine ⟨Dp.few_set _, Dp.few_length _, fun x hx => ?_, fun x hx => ?_⟩
  · have := Dp.few_bd hx; omega
  · have := Dp.few_bd hx; omega

theorem ids_front {w : World} {ao : Option Addr} {cap : Nat} {xs : List Dp.ID} (h : Dp.Ids w ao cap xs) (k : Nat) : Dp.Ids w ao cap (xs.take k) :=
  ⟨by rw [List.length_take]; have := h.le; omega, h.capl, fun j hj => by
    rw [List.length_take] at hj
    obtain ⟨x, e, hx, h0, h1⟩ := h.lies j (by omega)
    exact ⟨x, e, hx, by simpa using h0, by simpa using h1⟩⟩

set_option maxRecDepth 100000 in
set_option maxHeartbeats 4000000 in
theorem walk (a0 : Option Addr) (len0 cap0 : Nat) (a1 : Option Addr) (len1 cap1 : Nat) (a2_0 : Int) (a2_1 : Int) (a3 : Bool) (a4 : Option Addr) (len4 cap4 : Nat) (w : World) (w0 : ∀ i, i < len0 → ∃ (x : Addr) (e0 : Int), a0 = some x ∧ x.block < w.heap.size ∧ w.cell? (x.add i) = some (.int .u8 e0) ∧ (Lit.int .u8 e0).wf = true) (l0 : len0 ≤ cap0) (m0 : cap0 ≤ maxLen) (w1 : ∀ i, i < len1 → ∃ (x : Addr) (e0 : Int), a1 = some x ∧ x.block < w.heap.size ∧ w.cell? (x.add i) = some (.int .u8 e0) ∧ (Lit.int .u8 e0).wf = true) (l1 : len1 ≤ cap1) (m1 : cap1 ≤ maxLen) (w2_0 : (Lit.int .i64 a2_0).wf = true) (w2_1 : (Lit.int .i64 a2_1).wf = true) (w4 : ∀ i, i < len4 → ∃ (x : Addr) (e0 : Int) (e1 : Int), a4 = some x ∧ x.block < w.heap.size ∧ w.cell? (x.add (i * 2)) = some (.int .i64 e0) ∧ w.cell? (x.add (i * 2 + 1)) = some (.int .i64 e1) ∧ (Lit.int .i64 e0).wf = true ∧ (Lit.int .i64 e1).wf = true) (l4 : len4 ≤ cap4) (m4 : cap4 ≤ maxLen) (z4 : cap4 * Tryd.prog.bytesOf 24 ≤ 140737488351232) (ht : Bl.Tab w) :
    Calls Tryd.prog 3 #[.slice a0 len0 cap0, .slice a1 len1 cap1, .agg #[.int .i64 a2_0, .int .i64 a2_1], .bool a3, .slice a4 len4 cap4] w fun e w' => e = .returned (.bool true) ∧ Below w.heap.size w w' := by
  obtain ⟨xs, rfl, hx⟩ := Dp.Bts.of w0
  obtain ⟨ys, rfl, hy⟩ := Dp.Bts.of w1
  obtain ⟨ll, rfl, hl, hlr⟩ := Dp.Ids.of l4 m4 w4
  have HX := Lib.hid hx
  have HY := Lib.hid hy
  have HL := Lib.hid hl
  have q0 : -9223372036854775808 ≤ a2_0 ∧ a2_0 ≤ 9223372036854775807 := by simpa [Lit.wf, IntKind.min, IntKind.max, IntKind.signed, IntKind.bits] using w2_0
  have q1 : -9223372036854775808 ≤ a2_1 ∧ a2_1 ≤ 9223372036854775807 := by simpa [Lit.wf, IntKind.min, IntKind.max, IntKind.signed, IntKind.bits] using w2_1
  obtain ⟨za, hza⟩ : ∃ za, Hid (Dp.fewD (xs.take 20) = za) := ⟨_, Lib.hid rfl⟩
  obtain ⟨zb, hzb⟩ : ∃ zb, Hid (Dp.fewD (ys.take 20) = zb) := ⟨_, Lib.hid rfl⟩
  have FA := few_facts hza.out
  have FB := few_facts hzb.out
  have la := FA.2.1
  have lb := FB.2.1
  have SA := Lib.hid FA.1
  have SB := Lib.hid FB.1
  obtain ⟨j1, hj1⟩ : ∃ j : Int, wrap64 ((IntKind.u64.wrap a2_0).tmod 5) = j := ⟨_, rfl⟩
  obtain ⟨j2, hj2⟩ : ∃ j : Int, wrap64 ((IntKind.u64.wrap a2_1).tmod 14) = j := ⟨_, rfl⟩
  obtain ⟨i1, hi1⟩ : ∃ i : Int, (if a3 then j1 else a2_0) = i := ⟨_, rfl⟩
  obtain ⟨i2, hi2⟩ : ∃ i : Int, (if a3 then j2 else a2_1) = i := ⟨_, rfl⟩
  have HI := Lib.hid (show _ ∧ _ from ⟨hi1, hi2⟩)
  obtain ⟨ls, hls⟩ : ∃ ls, ll.take 30 = ls := ⟨_, rfl⟩
  have lls : ls.length = min ll.length 30 := by rw [← hls, List.length_take, Nat.min_comm]
  have hlm : (min (ll.length : Int) 30) = (ls.length : Int) := by rw [lls]; omega
  have lls2 : ls.length ≤ 30 := by omega
  have RL : Hid (Dp.InR ls) := Lib.hid (by rw [← hls]; exact fun x hx => hlr x (List.mem_of_mem_take hx))
  have HL2 : Hid (∀ W, Below w.heap.size w W → Dp.Ids W a4 cap4 ls) := Lib.hid fun W hW => by rw [← hls]; exact ids_front (HL.out.kept hW) 30
  have hlc : ll.length ≤ cap4 := l4
  have hcm : cap4 ≤ 9223372036854775807 := m4
  have hlsc : (ls.length : Int) ≤ (cap4 : Int) := by omega
  have HLS := Lib.hid lls
  obtain ⟨ad, had⟩ : ∃ z, Hid (Dp.addD za (i1, i2) = z) := ⟨_, Lib.hid rfl⟩
  obtain ⟨jn, hjn⟩ : ∃ z, Hid (Dp.joinD za zb = z) := ⟨_, Lib.hid rfl⟩
  obtain ⟨le, hle⟩ : ∃ z, Hid (Dp.lessD za zb = z) := ⟨_, Lib.hid rfl⟩
  obtain ⟨s, ok, hs⟩ : ∃ s ok, Hid (Dp.putD za = (s, ok)) := ⟨_, _, Lib.hid rfl⟩
  obtain ⟨u, okl, hu⟩ : ∃ s ok, Hid (Dp.putD ls = (s, ok)) := ⟨_, _, Lib.hid rfl⟩
  obtain ⟨hz, hhz⟩ : ∃ b, Hid (Dp.hasD za (i1, i2) = b) := ⟨_, Lib.hid rfl⟩
  obtain ⟨rz, hrz⟩ : ∃ b, Hid (Dp.rightD (i1, i2) = b) := ⟨_, Lib.hid rfl⟩
  obtain ⟨sz, hsz⟩ : ∃ b, Hid (Dp.setD ls = b) := ⟨_, Lib.hid rfl⟩
  obtain ⟨tt, htt⟩ : ∃ t, Hid ((⟨(Dp.textD ls).toArray⟩ : ByteArray) = t) := ⟨_, Lib.hid rfl⟩
  have HT := Lib.hid ht
  clear FA FB ht w0 w1 w4 w2_0 w2_1 hx hy hl hlr q0 q1 hi1 hi2 hls lls
  go_enter Tryd.func3, Tryd.ntmps3
  go_wp2_with fail
  have P0 := Bl.Pair.new w (.int .i64 a2_0) (.int .i64 a2_1) 24
  have B0 := Rw.below_1 w (.cells #[.int .i64 a2_0, .int .i64 a2_1] 24)
  generalize w.alloc (.cells #[.int .i64 a2_0, .int .i64 a2_1] 24) = v0 at *
  refine (Dp.examples_any v0 (HT.out.over B0)).mono ?_
  rintro e v1 ⟨rfl, hb⟩
  have P1 := P0.over hb
  have B1 := B0.trans (hb.mono B0.size)
  clear hb P0 B0
  go_upto_if 31 with fail
  go_cut [] (fun wx => Bl.Pair wx w.heap.size (.int .i64 i1) (.int .i64 i2) ∧ Below w.heap.size w wx)
  case first =>
    cases a3 with
    | false =>
      obtain ⟨rfl, rfl⟩ : a2_0 = i1 ∧ a2_1 = i2 := HI.out
      go_wp2_with fail
      go_meet
      exact ⟨P1, B1⟩
    | true =>
      obtain ⟨rfl, rfl⟩ : j1 = i1 ∧ j2 = i2 := HI.out
      have ⟨A0, A1, A2, A3, A4⟩ := P1
      have HP1 := Lib.hid (show _ ∧ _ from ⟨P1, B1⟩)
      clear P1 B1
      go_wp2_with fail
      go_meet
      exact ⟨HP1.out.1.put _ _, Bl.below_set2 HP1.out.2 (Nat.le_refl _) _ _⟩
  case rest =>
    clear P1 B1 HI hj1 hj2
    obtain ⟨P1, B1⟩ := hcut
    generalize wc = v1 at *
    have G_1 := Lib.hid P1
    have B_1 := Lib.hid B1
    have X_1 := Lib.hid (HX.out.kept B1)
    have Y_1 := Lib.hid (HY.out.kept B1)
    have L_1 := Lib.hid (HL2.out _ B1)
    clear P1 B1 HX HY HL HL2
    go_wp2_with fail
    refine (Dp.few_any xs za hza.out a0 cap0 l0 m0 v1 X_1.out).mono ?_
    rintro e v2 ⟨pa, ca, rfl, inew, hb⟩
    have B_2 := Lib.hid (B_1.out.trans (hb.mono B_1.out.size))
    have G_2 := Lib.hid (G_1.out.over hb)
    have Y_2 := Lib.hid (Y_1.out.kept hb)
    have L_2 := Lib.hid (L_1.out.kept hb)
    have IA_2 := Lib.hid inew
    clear hb B_1 G_1 X_1 Y_1 L_1 inew
    go_wp2_with fail
    refine (Dp.few_any ys zb hzb.out a1 cap1 l1 m1 v2 Y_2.out).mono ?_
    rintro e v3 ⟨pb, cb, rfl, inew, hb⟩
    have B_3 := Lib.hid (B_2.out.trans (hb.mono B_2.out.size))
    have G_3 := Lib.hid (G_2.out.over hb)
    have L_3 := Lib.hid (L_2.out.kept hb)
    have IA_3 := Lib.hid (IA_2.out.kept hb)
    have IB_3 := Lib.hid inew
    clear hb B_2 G_2 Y_2 L_2 IA_2 inew
    go_wp2_with fail
    refine (Dp.refset_of za pa ca (by omega) v3 IA_3.out.toIds).mono ?_
    rintro e v4 ⟨pp, cp, rfl, inew, hb⟩
    have B_4 := Lib.hid (B_3.out.trans (hb.mono B_3.out.size))
    have G_4 := Lib.hid (G_3.out.over hb)
    have L_4 := Lib.hid (L_3.out.kept hb)
    have IA_4 := Lib.hid (IA_3.out.kept hb)
    have IB_4 := Lib.hid (IB_3.out.kept hb)
    have IP_4 := Lib.hid inew
    clear hb B_3 G_3 L_3 IA_3 IB_3 inew
    go_wp2_with fail
    refine (Dp.refset_of zb pb cb (by omega) v4 IB_4.out.toIds).mono ?_
    rintro e v5 ⟨pq, cq, rfl, inew, hb⟩
    have B_5 := Lib.hid (B_4.out.trans (hb.mono B_4.out.size))
    have G_5 := Lib.hid (G_4.out.over hb)
    have L_5 := Lib.hid (L_4.out.kept hb)
    have IA_5 := Lib.hid (IA_4.out.kept hb)
    have IB_5 := Lib.hid (IB_4.out.kept hb)
    have IP_5 := Lib.hid (IP_4.out.kept hb)
    have IQ_5 := Lib.hid inew
    clear hb B_4 G_4 L_4 IA_4 IB_4 IP_4 inew
    have ⟨F00, F01, F02, F03, F04⟩ := G_5.out
    go_upto_region 12 with fail
    have hb := Rw.below_1 v5 (.cells #[.int .i64 i1, .int .i64 i2] 31)
    have B_6 := Lib.hid (B_5.out.trans (hb.mono B_5.out.size))
    have G_6 := Lib.hid (G_5.out.over hb)
    have L_6 := Lib.hid (L_5.out.kept hb)
    have IA_6 := Lib.hid (IA_5.out.kept hb)
    have IB_6 := Lib.hid (IB_5.out.kept hb)
    have IP_6 := Lib.hid (IP_5.out.kept hb)
    have IQ_6 := Lib.hid (IQ_5.out.kept hb)
    have K_6 := Lib.hid (Bl.Pair.new v5 (.int .i64 i1) (.int .i64 i2) 31)
    clear hb B_5 G_5 L_5 IA_5 IB_5 IP_5 IQ_5 F00 F01 F02 F03 F04
    generalize v5.alloc (.cells #[.int .i64 i1, .int .i64 i2] 31) = v6 at *
    generalize v5.heap.size = gk at *
    have k0 : Below v6.heap.size v6 v6.drew := (Below.refl _ _).drew
    have HC : Hid (∀ W, Below v6.heap.size v6 W → W.cell? ⟨w.heap.size, 0, none⟩ = some (.int .i64 i1) ∧ W.cell? ⟨w.heap.size, 1, none⟩ = some (.int .i64 i2) ∧ W.cell? ⟨gk, 0, none⟩ = some (.int .i64 i1) ∧ W.cell? ⟨gk, 1, none⟩ = some (.int .i64 i2)) := Lib.hid fun W h => ⟨(G_6.out.over h).2.1, (G_6.out.over h).2.2.1, (K_6.out.over h).2.1, (K_6.out.over h).2.2.1⟩
    have JIA := Lib.hid (fun W (h : Below v6.heap.size v6 W) => IA_6.out.kept h)
    have JIP := Lib.hid (fun W (h : Below v6.heap.size v6 W) => IP_6.out.kept h)
    refine wp_region_held_drew (S := fun W => W.cell? ⟨w.heap.size, 0, none⟩ = some (.int .i64 i1) ∧ W.cell? ⟨w.heap.size, 1, none⟩ = some (.int .i64 i2) ∧ W.cell? ⟨gk, 0, none⟩ = some (.int .i64 i1) ∧ W.cell? ⟨gk, 1, none⟩ = some (.int .i64 i2)) (by kernel_rfl) (HC.out _ k0) (fun hHeld => ?_)
    refine Dp.take_yes (i := 0) (oi := ⟨some 61, _, _, _, _, _⟩) (v := ?_) rfl (by kernel_rfl) (by kernel_rfl) (by kernel_rfl) (fun _ _ _ h => h) (by kernel_rfl) ?_ (by assumption) ?_
    rotate_left
    · (intro w' hSw; (try dsimp only at hSw); first | (go_simp; done) | (go_simp; with_reducible rfl))
    (try simp only [Act.put]); (try simp only [List.setIfInBounds_toArray]); (try simp only [List.set_cons_succ]); (try simp only [List.set_cons_zero])
    refine Dp.take_yes (i := 1) (oi := ⟨some 62, _, _, _, _, _⟩) (v := ?_) rfl (by kernel_rfl) (by kernel_rfl) (by kernel_rfl) (fun _ _ _ h => h) (by kernel_rfl) ?_ (by assumption) ?_
    rotate_left
    · (intro w' hSw; (try dsimp only at hSw); first | (go_simp; done) | (go_simp; with_reducible rfl))
    (try simp only [Act.put]); (try simp only [List.setIfInBounds_toArray]); (try simp only [List.set_cons_succ]); (try simp only [List.set_cons_zero])
    refine Dp.take_yes (i := 3) (oi := ⟨some 64, _, _, _, _, _⟩) (v := ?_) rfl (by kernel_rfl) (by kernel_rfl) (by kernel_rfl) (fun _ _ _ h => h) (by kernel_rfl) ?_ (by assumption) ?_
    rotate_left
    · (intro w' hSw; (try dsimp only at hSw); first | (go_simp; done) | (go_simp; with_reducible rfl))
    (try simp only [Act.put]); (try simp only [List.setIfInBounds_toArray]); (try simp only [List.set_cons_succ]); (try simp only [List.set_cons_zero])
    refine Dp.take_yes (i := 4) (oi := ⟨some 65, _, _, _, _, _⟩) (v := ?_) rfl (by kernel_rfl) (by kernel_rfl) (by kernel_rfl) (fun _ _ _ h => h) (by kernel_rfl) ?_ (by assumption) ?_
    rotate_left
    · (intro w' hSw; (try dsimp only at hSw); first | (go_simp; done) | (go_simp; with_reducible rfl))
    (try simp only [Act.put]); (try simp only [List.setIfInBounds_toArray]); (try simp only [List.set_cons_succ]); (try simp only [List.set_cons_zero])
    refine wpAnyH_ready (rs := [2]) (by kernel_rfl) (by simp) ?_
    refine AllReadyH.cons (o := ⟨some 63, _, _, _, _, _⟩) rfl (fun K hK => ?_) AllReadyH.nil
    go_simp
    go_at_call 14
    refine (Dp.add_any za ad i1 i2 had.out SA.out pa ca (by omega) _ (JIA.out _ k0)).mono ?_
    rintro e u1 ⟨pd, cd, rfl, id1, hb⟩
    have k1 := Dp.keep2 hb k0
    clear hb
    (try go_wp2_with fail)
    refine hK.out _ _ (HC.out _ (by assumption)) (fun hHeld2 => ?_)
    clear hK hHeld; have hHeld := hHeld2; clear hHeld2
    (try simp only [Act.put]); (try simp only [List.setIfInBounds_toArray]); (try simp only [List.set_cons_succ]); (try simp only [List.set_cons_zero])
    refine wpAnyH_ready (rs := [5]) (by kernel_rfl) (by simp) ?_
    refine AllReadyH.cons (o := ⟨some 66, _, _, _, _, _⟩) rfl (fun K hK => ?_) AllReadyH.nil
    go_simp
    go_at_call 15
    refine (Dp.refadd_any za ad i1 i2 had.out pp cp (by omega) _ (JIP.out _ k1)).mono ?_
    rintro e u2 ⟨pe, ce, rfl, ie1, hb⟩
    have id2 := id1.kept hb
    have k2 := Dp.keep2 hb k1
    clear hb k1 id1
    (try go_wp2_with fail)
    refine hK.out _ _ (HC.out _ (by assumption)) (fun hHeld2 => ?_)
    clear hK hHeld; have hHeld := hHeld2; clear hHeld2
    (try simp only [Act.put]); (try simp only [List.setIfInBounds_toArray]); (try simp only [List.set_cons_succ]); (try simp only [List.set_cons_zero])
    refine wpAnyH_ready (rs := [6]) (by kernel_rfl) (by simp) ?_
    refine AllReadyH.cons (o := ⟨some 67, _, _, _, _, _⟩) rfl (fun K hK => ?_) AllReadyH.nil
    go_simp
    go_at_call 13
    refine (Dp.alike_any ad ad true (decide_eq_true rfl) pd pe cd ce _ id2.toIds ie1.toIds).mono ?_
    rintro e v7 ⟨rfl, hb⟩
    have k3 := Dp.keep2 hb k2
    clear hb k2 id2 ie1
    (try go_wp2_with fail)
    refine hK.out _ _ (HC.out _ (by assumption)) (fun hHeld2 => ?_)
    clear hK hHeld; have hHeld := hHeld2; clear hHeld2
    (try simp only [Act.put]); (try simp only [List.setIfInBounds_toArray]); (try simp only [List.set_cons_succ]); (try simp only [List.set_cons_zero])
    refine Dp.take_yes (i := 7) (oi := ⟨some 17, _, _, _, _, _⟩) (v := ?_) rfl (by kernel_rfl) (by kernel_rfl) (by kernel_rfl) (fun _ _ _ h => h) (by kernel_rfl) ?_ (by assumption) ?_
    rotate_left
    · (intro w' hSw; (try dsimp only at hSw); first | (go_simp; done) | (go_simp; with_reducible rfl))
    (try simp only [Act.put]); (try simp only [List.setIfInBounds_toArray]); (try simp only [List.set_cons_succ]); (try simp only [List.set_cons_zero])
    refine wpAnyH_done (by kernel_rfl) ?_ _
    have hb := k3
    clear k0 k3 HC JIA JIP
    have B_7 := Lib.hid (B_6.out.trans (hb.mono B_6.out.size))
    have G_7 := Lib.hid (G_6.out.over hb)
    have L_7 := Lib.hid (L_6.out.kept hb)
    have IA_7 := Lib.hid (IA_6.out.kept hb)
    have IB_7 := Lib.hid (IB_6.out.kept hb)
    have IP_7 := Lib.hid (IP_6.out.kept hb)
    have IQ_7 := Lib.hid (IQ_6.out.kept hb)
    have K_7 := Lib.hid (K_6.out.over hb)
    clear hb B_6 G_6 L_6 IA_6 IB_6 IP_6 IQ_6 K_6
    go_wp2_with fail
    refine (Dp.join_any za zb jn hjn.out SA.out SB.out pa pb ca cb (by omega) (by omega) v7 IA_7.out IB_7.out).mono ?_
    rintro e v8 ⟨pj, cj, rfl, inew, hb⟩
    have B_8 := Lib.hid (B_7.out.trans (hb.mono B_7.out.size))
    have G_8 := Lib.hid (G_7.out.over hb)
    have L_8 := Lib.hid (L_7.out.kept hb)
    have IA_8 := Lib.hid (IA_7.out.kept hb)
    have IB_8 := Lib.hid (IB_7.out.kept hb)
    have IP_8 := Lib.hid (IP_7.out.kept hb)
    have IQ_8 := Lib.hid (IQ_7.out.kept hb)
    have K_8 := Lib.hid (K_7.out.over hb)
    have IJ_8 := Lib.hid inew
    clear hb B_7 G_7 L_7 IA_7 IB_7 IP_7 IQ_7 K_7 inew
    go_wp2_with fail
    refine (Dp.refjoin_any za zb jn hjn.out pp pq cp cq (by omega) v8 IP_8.out IQ_8.out.toIds).mono ?_
    rintro e v9 ⟨pm, cm, rfl, inew, hb⟩
    have B_9 := Lib.hid (B_8.out.trans (hb.mono B_8.out.size))
    have G_9 := Lib.hid (G_8.out.over hb)
    have L_9 := Lib.hid (L_8.out.kept hb)
    have IA_9 := Lib.hid (IA_8.out.kept hb)
    have IB_9 := Lib.hid (IB_8.out.kept hb)
    have IP_9 := Lib.hid (IP_8.out.kept hb)
    have IQ_9 := Lib.hid (IQ_8.out.kept hb)
    have K_9 := Lib.hid (K_8.out.over hb)
    have IJ_9 := Lib.hid (IJ_8.out.kept hb)
    have IM_9 := Lib.hid inew
    clear hb B_8 G_8 L_8 IA_8 IB_8 IP_8 IQ_8 K_8 IJ_8 inew
    go_wp2_with fail
    refine (Dp.alike_any jn jn true (decide_eq_true rfl) pj pm cj cm v9 IJ_9.out.toIds IM_9.out.toIds).mono ?_
    rintro e v10 ⟨rfl, hb⟩
    have B_10 := Lib.hid (B_9.out.trans (hb.mono B_9.out.size))
    have G_10 := Lib.hid (G_9.out.over hb)
    have L_10 := Lib.hid (L_9.out.kept hb)
    have IA_10 := Lib.hid (IA_9.out.kept hb)
    have IB_10 := Lib.hid (IB_9.out.kept hb)
    have IP_10 := Lib.hid (IP_9.out.kept hb)
    have IQ_10 := Lib.hid (IQ_9.out.kept hb)
    have K_10 := Lib.hid (K_9.out.over hb)
    clear hb B_9 G_9 L_9 IA_9 IB_9 IP_9 IQ_9 K_9 IJ_9 IM_9
    go_wp2_with fail
    refine (Dp.less_any za zb le hle.out SA.out SB.out pa pb ca cb (by omega) (by omega) v10 IA_10.out IB_10.out).mono ?_
    rintro e v11 ⟨pj, cj, rfl, inew, hb⟩
    have B_11 := Lib.hid (B_10.out.trans (hb.mono B_10.out.size))
    have G_11 := Lib.hid (G_10.out.over hb)
    have L_11 := Lib.hid (L_10.out.kept hb)
    have IA_11 := Lib.hid (IA_10.out.kept hb)
    have IB_11 := Lib.hid (IB_10.out.kept hb)
    have IP_11 := Lib.hid (IP_10.out.kept hb)
    have IQ_11 := Lib.hid (IQ_10.out.kept hb)
    have K_11 := Lib.hid (K_10.out.over hb)
    have IJ_11 := Lib.hid inew
    clear hb B_10 G_10 L_10 IA_10 IB_10 IP_10 IQ_10 K_10 inew
    go_wp2_with fail
    refine (Dp.refless_any za zb le hle.out pp pq cp cq (by omega) v11 IP_11.out.toIds IQ_11.out.toIds).mono ?_
    rintro e v12 ⟨pm, cm, rfl, inew, hb⟩
    have B_12 := Lib.hid (B_11.out.trans (hb.mono B_11.out.size))
    have G_12 := Lib.hid (G_11.out.over hb)
    have L_12 := Lib.hid (L_11.out.kept hb)
    have IA_12 := Lib.hid (IA_11.out.kept hb)
    have IP_12 := Lib.hid (IP_11.out.kept hb)
    have K_12 := Lib.hid (K_11.out.over hb)
    have IJ_12 := Lib.hid (IJ_11.out.kept hb)
    have IM_12 := Lib.hid inew
    clear hb B_11 G_11 L_11 IA_11 IB_11 IP_11 IQ_11 K_11 IJ_11 inew
    go_wp2_with fail
    refine (Dp.alike_any le le true (decide_eq_true rfl) pj pm cj cm v12 IJ_12.out.toIds IM_12.out.toIds).mono ?_
    rintro e v13 ⟨rfl, hb⟩
    have B_13 := Lib.hid (B_12.out.trans (hb.mono B_12.out.size))
    have G_13 := Lib.hid (G_12.out.over hb)
    have L_13 := Lib.hid (L_12.out.kept hb)
    have IA_13 := Lib.hid (IA_12.out.kept hb)
    have IP_13 := Lib.hid (IP_12.out.kept hb)
    have K_13 := Lib.hid (K_12.out.over hb)
    clear hb B_12 G_12 L_12 IA_12 IP_12 K_12 IJ_12 IM_12
    go_wp2_with fail
    refine (Dp.putset_any za s ok hs.out pa ca v13 IA_13.out.toIds).mono ?_
    rintro e v14 ⟨rfl, hb⟩
    have B_14 := Lib.hid (B_13.out.trans (hb.mono B_13.out.size))
    have G_14 := Lib.hid (G_13.out.over hb)
    have L_14 := Lib.hid (L_13.out.kept hb)
    have IA_14 := Lib.hid (IA_13.out.kept hb)
    have IP_14 := Lib.hid (IP_13.out.kept hb)
    have K_14 := Lib.hid (K_13.out.over hb)
    clear hb B_13 G_13 L_13 IA_13 IP_13 K_13
    go_wp2_with fail
    refine (Dp.refputset_any za s ok hs.out pp cp v14 IP_14.out.toIds).mono ?_
    rintro e v15 ⟨rfl, hb⟩
    have B_15 := Lib.hid (B_14.out.trans (hb.mono B_14.out.size))
    have G_15 := Lib.hid (G_14.out.over hb)
    have L_15 := Lib.hid (L_14.out.kept hb)
    have IA_15 := Lib.hid (IA_14.out.kept hb)
    have IP_15 := Lib.hid (IP_14.out.kept hb)
    have K_15 := Lib.hid (K_14.out.over hb)
    clear hb B_14 G_14 L_14 IA_14 IP_14 K_14
    go_wp2_with fail
    refine (Dp.putset_any ls u okl hu.out a4 cap4 v15 L_15.out).mono ?_
    rintro e v16 ⟨rfl, hb⟩
    have B_16 := Lib.hid (B_15.out.trans (hb.mono B_15.out.size))
    have G_16 := Lib.hid (G_15.out.over hb)
    have L_16 := Lib.hid (L_15.out.kept hb)
    have IA_16 := Lib.hid (IA_15.out.kept hb)
    have IP_16 := Lib.hid (IP_15.out.kept hb)
    have K_16 := Lib.hid (K_15.out.over hb)
    clear hb B_15 G_15 L_15 IA_15 IP_15 K_15
    go_wp2_with fail
    refine (Dp.refset_of ls a4 cap4 (by omega) v16 L_16.out).mono ?_
    rintro e v17 ⟨pr, cr, rfl, inew, hb⟩
    have B_17 := Lib.hid (B_16.out.trans (hb.mono B_16.out.size))
    have G_17 := Lib.hid (G_16.out.over hb)
    have L_17 := Lib.hid (L_16.out.kept hb)
    have IA_17 := Lib.hid (IA_16.out.kept hb)
    have IP_17 := Lib.hid (IP_16.out.kept hb)
    have K_17 := Lib.hid (K_16.out.over hb)
    have IR_17 := Lib.hid inew
    clear hb B_16 G_16 L_16 IA_16 IP_16 K_16 inew
    go_wp2_with fail
    refine (Dp.refputset_any ls u okl hu.out pr cr v17 IR_17.out.toIds).mono ?_
    rintro e v18 ⟨rfl, hb⟩
    have B_18 := Lib.hid (B_17.out.trans (hb.mono B_17.out.size))
    have G_18 := Lib.hid (G_17.out.over hb)
    have L_18 := Lib.hid (L_17.out.kept hb)
    have IA_18 := Lib.hid (IA_17.out.kept hb)
    have IP_18 := Lib.hid (IP_17.out.kept hb)
    have K_18 := Lib.hid (K_17.out.over hb)
    clear hb B_17 G_17 L_17 IA_17 IP_17 K_17 IR_17
    go_wp2_with fail
    have k0 : Below v18.heap.size v18 v18.drew := (Below.refl _ _).drew
    have HC : Hid (∀ W, Below v18.heap.size v18 W → W.cell? ⟨w.heap.size, 0, none⟩ = some (.int .i64 i1) ∧ W.cell? ⟨w.heap.size, 1, none⟩ = some (.int .i64 i2) ∧ W.cell? ⟨gk, 0, none⟩ = some (.int .i64 i1) ∧ W.cell? ⟨gk, 1, none⟩ = some (.int .i64 i2)) := Lib.hid fun W h => ⟨(G_18.out.over h).2.1, (G_18.out.over h).2.2.1, (K_18.out.over h).2.1, (K_18.out.over h).2.2.1⟩
    have JIA := Lib.hid (fun W (h : Below v18.heap.size v18 W) => IA_18.out.kept h)
    have JIP := Lib.hid (fun W (h : Below v18.heap.size v18 W) => IP_18.out.kept h)
    have JL := Lib.hid (fun W (h : Below v18.heap.size v18 W) => L_18.out.kept h)
    have TB := Lib.hid (fun W (h : Below v18.heap.size v18 W) => HT.out.over (B_18.out.trans (h.mono B_18.out.size)))
    refine wp_region_held_drew (S := fun W => W.cell? ⟨w.heap.size, 0, none⟩ = some (.int .i64 i1) ∧ W.cell? ⟨w.heap.size, 1, none⟩ = some (.int .i64 i2) ∧ W.cell? ⟨gk, 0, none⟩ = some (.int .i64 i1) ∧ W.cell? ⟨gk, 1, none⟩ = some (.int .i64 i2)) (by kernel_rfl) (HC.out _ k0) (fun hHeld => ?_)
    refine Dp.take_yes (i := 0) (oi := ⟨some 103, _, _, _, _, _⟩) (v := ?_) rfl (by kernel_rfl) (by kernel_rfl) (by kernel_rfl) (fun _ _ _ h => h) (by kernel_rfl) ?_ (by assumption) ?_
    rotate_left
    · (intro w' hSw; (try dsimp only at hSw); first | (go_simp; done) | (go_simp; with_reducible rfl))
    (try simp only [Act.put]); (try simp only [List.setIfInBounds_toArray]); (try simp only [List.set_cons_succ]); (try simp only [List.set_cons_zero])
    refine Dp.take_yes (i := 1) (oi := ⟨some 104, _, _, _, _, _⟩) (v := ?_) rfl (by kernel_rfl) (by kernel_rfl) (by kernel_rfl) (fun _ _ _ h => h) (by kernel_rfl) ?_ (by assumption) ?_
    rotate_left
    · (intro w' hSw; (try dsimp only at hSw); first | (go_simp; done) | (go_simp; with_reducible rfl))
    (try simp only [Act.put]); (try simp only [List.setIfInBounds_toArray]); (try simp only [List.set_cons_succ]); (try simp only [List.set_cons_zero])
    refine Dp.take_yes (i := 2) (oi := ⟨some 105, _, _, _, _, _⟩) (v := ?_) rfl (by kernel_rfl) (by kernel_rfl) (by kernel_rfl) (fun _ _ _ h => h) (by kernel_rfl) ?_ (by assumption) ?_
    rotate_left
    · (intro w' hSw; (try dsimp only at hSw); first | (go_simp; done) | (go_simp; with_reducible rfl))
    (try simp only [Act.put]); (try simp only [List.setIfInBounds_toArray]); (try simp only [List.set_cons_succ]); (try simp only [List.set_cons_zero])
    refine Dp.take_yes (i := 3) (oi := ⟨some 106, _, _, _, _, _⟩) (v := ?_) rfl (by kernel_rfl) (by kernel_rfl) (by kernel_rfl) (fun _ _ _ h => h) (by kernel_rfl) ?_ (by assumption) ?_
    rotate_left
    · (intro w' hSw; (try dsimp only at hSw); first | (go_simp; done) | (go_simp; with_reducible rfl))
    (try simp only [Act.put]); (try simp only [List.setIfInBounds_toArray]); (try simp only [List.set_cons_succ]); (try simp only [List.set_cons_zero])
    refine Dp.take_yes (i := 4) (oi := ⟨some 107, _, _, _, _, _⟩) (v := ?_) rfl (by kernel_rfl) (by kernel_rfl) (by kernel_rfl) (fun _ _ _ h => h) (by kernel_rfl) ?_ (by assumption) ?_
    rotate_left
    · (intro w' hSw; (try dsimp only at hSw); first | (go_simp; done) | (go_simp; with_reducible rfl))
    (try simp only [Act.put]); (try simp only [List.setIfInBounds_toArray]); (try simp only [List.set_cons_succ]); (try simp only [List.set_cons_zero])
    refine Dp.take_yes (i := 5) (oi := ⟨some 108, _, _, _, _, _⟩) (v := ?_) rfl (by kernel_rfl) (by kernel_rfl) (by kernel_rfl) (fun _ _ _ h => h) (by kernel_rfl) ?_ (by assumption) ?_
    rotate_left
    · (intro w' hSw; (try dsimp only at hSw); first | (go_simp; done) | (go_simp; with_reducible rfl))
    (try simp only [Act.put]); (try simp only [List.setIfInBounds_toArray]); (try simp only [List.set_cons_succ]); (try simp only [List.set_cons_zero])
    refine Dp.take_yes (i := 6) (oi := ⟨some 109, _, _, _, _, _⟩) (v := ?_) rfl (by kernel_rfl) (by kernel_rfl) (by kernel_rfl) (fun _ _ _ h => h) (by kernel_rfl) ?_ (by assumption) ?_
    rotate_left
    · (intro w' hSw; (try dsimp only at hSw); first | (go_simp; done) | (go_simp; with_reducible rfl))
    (try simp only [Act.put]); (try simp only [List.setIfInBounds_toArray]); (try simp only [List.set_cons_succ]); (try simp only [List.set_cons_zero])
    refine Dp.take_yes (i := 7) (oi := ⟨some 110, _, _, _, _, _⟩) (v := ?_) rfl (by kernel_rfl) (by kernel_rfl) (by kernel_rfl) (fun _ _ _ h => h) (by kernel_rfl) ?_ (by assumption) ?_
    rotate_left
    · (intro w' hSw; (try dsimp only at hSw); first | (go_simp; done) | (go_simp; with_reducible rfl))
    (try simp only [Act.put]); (try simp only [List.setIfInBounds_toArray]); (try simp only [List.set_cons_succ]); (try simp only [List.set_cons_zero])
    refine Dp.take_yes (i := 8) (oi := ⟨some 111, _, _, _, _, _⟩) (v := ?_) rfl (by kernel_rfl) (by kernel_rfl) (by kernel_rfl) (fun _ _ _ h => h) (by kernel_rfl) ?_ (by assumption) ?_
    rotate_left
    · (intro w' hSw; (try dsimp only at hSw); first | (go_simp; done) | (go_simp; with_reducible rfl))
    (try simp only [Act.put]); (try simp only [List.setIfInBounds_toArray]); (try simp only [List.set_cons_succ]); (try simp only [List.set_cons_zero])
    refine Dp.take_yes (i := 9) (oi := ⟨some 112, _, _, _, _, _⟩) (v := ?_) rfl (by kernel_rfl) (by kernel_rfl) (by kernel_rfl) (fun _ _ _ h => h) (by kernel_rfl) ?_ (by assumption) ?_
    rotate_left
    · (intro w' hSw; (try dsimp only at hSw); first | (go_simp; done) | (go_simp; with_reducible rfl))
    (try simp only [Act.put]); (try simp only [List.setIfInBounds_toArray]); (try simp only [List.set_cons_succ]); (try simp only [List.set_cons_zero])
    refine Dp.take_yes (i := 10) (oi := ⟨some 113, _, _, _, _, _⟩) (v := ?_) rfl (by kernel_rfl) (by kernel_rfl) (by kernel_rfl) (fun _ _ _ h => h) (by kernel_rfl) ?_ (by assumption) ?_
    rotate_left
    · (intro w' hSw; (try dsimp only at hSw); first | (go_simp; done) | (go_simp; with_reducible rfl))
    (try simp only [Act.put]); (try simp only [List.setIfInBounds_toArray]); (try simp only [List.set_cons_succ]); (try simp only [List.set_cons_zero])
    refine Dp.take_yes (i := 11) (oi := ⟨some 114, _, _, _, _, _⟩) (v := ?_) rfl (by kernel_rfl) (by kernel_rfl) (by kernel_rfl) (fun _ _ _ h => h) (by kernel_rfl) ?_ (by assumption) ?_
    rotate_left
    · (intro w' hSw; (try dsimp only at hSw); first | (go_simp; done) | (go_simp; with_reducible rfl))
    (try simp only [Act.put]); (try simp only [List.setIfInBounds_toArray]); (try simp only [List.set_cons_succ]); (try simp only [List.set_cons_zero])
    refine Dp.take_yes (i := 12) (oi := ⟨some 115, _, _, _, _, _⟩) (v := ?_) rfl (by kernel_rfl) (by kernel_rfl) (by kernel_rfl) (fun _ _ _ h => h) (by kernel_rfl) ?_ (by assumption) ?_
    rotate_left
    · (intro w' hSw; (try dsimp only at hSw); first | (go_simp; done) | (go_simp; with_reducible rfl))
    (try simp only [Act.put]); (try simp only [List.setIfInBounds_toArray]); (try simp only [List.set_cons_succ]); (try simp only [List.set_cons_zero])
    refine Dp.take_yes (i := 13) (oi := ⟨some 116, _, _, _, _, _⟩) (v := ?_) rfl (by kernel_rfl) (by kernel_rfl) (by kernel_rfl) (fun _ _ _ h => h) (by kernel_rfl) ?_ (by assumption) ?_
    rotate_left
    · (intro w' hSw; (try dsimp only at hSw); first | (go_simp; done) | (go_simp; with_reducible rfl))
    (try simp only [Act.put]); (try simp only [List.setIfInBounds_toArray]); (try simp only [List.set_cons_succ]); (try simp only [List.set_cons_zero])
    refine Dp.take_yes (i := 14) (oi := ⟨some 117, _, _, _, _, _⟩) (v := ?_) rfl (by kernel_rfl) (by kernel_rfl) (by kernel_rfl) (fun _ _ _ h => h) (by kernel_rfl) ?_ (by assumption) ?_
    rotate_left
    · (intro w' hSw; (try dsimp only at hSw); first | (go_simp; done) | (go_simp; with_reducible rfl))
    (try simp only [Act.put]); (try simp only [List.setIfInBounds_toArray]); (try simp only [List.set_cons_succ]); (try simp only [List.set_cons_zero])
    refine Dp.take_yes (i := 15) (oi := ⟨some 118, _, _, _, _, _⟩) (v := ?_) rfl (by kernel_rfl) (by kernel_rfl) (by kernel_rfl) (fun _ _ _ h => h) (by kernel_rfl) ?_ (by assumption) ?_
    rotate_left
    · (intro w' hSw; (try dsimp only at hSw); first | (go_simp; done) | (go_simp; with_reducible rfl))
    (try simp only [Act.put]); (try simp only [List.setIfInBounds_toArray]); (try simp only [List.set_cons_succ]); (try simp only [List.set_cons_zero])
    refine Dp.take_yes (i := 16) (oi := ⟨some 119, _, _, _, _, _⟩) (v := ?_) rfl (by kernel_rfl) (by kernel_rfl) (by kernel_rfl) (fun _ _ _ h => h) (by kernel_rfl) ?_ (by assumption) ?_
    rotate_left
    · (intro w' hSw; (try dsimp only at hSw); first | (go_simp; done) | (go_simp; with_reducible rfl))
    (try simp only [Act.put]); (try simp only [List.setIfInBounds_toArray]); (try simp only [List.set_cons_succ]); (try simp only [List.set_cons_zero])
    refine Dp.take_yes (i := 17) (oi := ⟨some 120, _, _, _, _, _⟩) (v := ?_) rfl (by kernel_rfl) (by kernel_rfl) (by kernel_rfl) (fun _ _ _ h => h) (by kernel_rfl) ?_ (by assumption) ?_
    rotate_left
    · (intro w' hSw; (try dsimp only at hSw); first | (go_simp; done) | (go_simp; with_reducible rfl))
    (try simp only [Act.put]); (try simp only [List.setIfInBounds_toArray]); (try simp only [List.set_cons_succ]); (try simp only [List.set_cons_zero])
    refine Dp.take_yes (i := 18) (oi := ⟨some 121, _, _, _, _, _⟩) (v := ?_) rfl (by kernel_rfl) (by kernel_rfl) (by kernel_rfl) (fun _ _ _ h => h) (by kernel_rfl) ?_ (by assumption) ?_
    rotate_left
    · (intro w' hSw; (try dsimp only at hSw); first | (go_simp; done) | (go_simp; with_reducible rfl))
    (try simp only [Act.put]); (try simp only [List.setIfInBounds_toArray]); (try simp only [List.set_cons_succ]); (try simp only [List.set_cons_zero])
    refine Dp.take_yes (i := 19) (oi := ⟨some 122, _, _, _, _, _⟩) (v := ?_) rfl (by kernel_rfl) (by kernel_rfl) (by kernel_rfl) (fun _ _ _ h => h) (by kernel_rfl) ?_ (by assumption) ?_
    rotate_left
    · (intro w' hSw; (try dsimp only at hSw); first | (go_simp; done) | (go_simp; with_reducible rfl))
    (try simp only [Act.put]); (try simp only [List.setIfInBounds_toArray]); (try simp only [List.set_cons_succ]); (try simp only [List.set_cons_zero])
    refine Dp.take_yes (i := 20) (oi := ⟨some 123, _, _, _, _, _⟩) (v := ?_) rfl (by kernel_rfl) (by kernel_rfl) (by kernel_rfl) (fun _ _ _ h => h) (by kernel_rfl) ?_ (by assumption) ?_
    rotate_left
    · (intro w' hSw; (try dsimp only at hSw); first | (go_simp; done) | (go_simp; with_reducible rfl))
    (try simp only [Act.put]); (try simp only [List.setIfInBounds_toArray]); (try simp only [List.set_cons_succ]); (try simp only [List.set_cons_zero])
    refine Dp.take_yes (i := 21) (oi := ⟨some 124, _, _, _, _, _⟩) (v := ?_) rfl (by kernel_rfl) (by kernel_rfl) (by kernel_rfl) (fun _ _ _ h => h) (by kernel_rfl) ?_ (by assumption) ?_
    rotate_left
    · (intro w' hSw; (try dsimp only at hSw); first | (go_simp; done) | (go_simp; with_reducible rfl))
    (try simp only [Act.put]); (try simp only [List.setIfInBounds_toArray]); (try simp only [List.set_cons_succ]); (try simp only [List.set_cons_zero])
    refine Dp.take_yes (i := 22) (oi := ⟨some 125, _, _, _, _, _⟩) (v := ?_) rfl (by kernel_rfl) (by kernel_rfl) (by kernel_rfl) (fun _ _ _ h => h) (by kernel_rfl) ?_ (by assumption) ?_
    rotate_left
    · (intro w' hSw; (try dsimp only at hSw); first | (go_simp; done) | (go_simp; with_reducible rfl))
    (try simp only [Act.put]); (try simp only [List.setIfInBounds_toArray]); (try simp only [List.set_cons_succ]); (try simp only [List.set_cons_zero])
    refine Dp.take_yes (i := 23) (oi := ⟨some 126, _, _, _, _, _⟩) (v := ?_) rfl (by kernel_rfl) (by kernel_rfl) (by kernel_rfl) (fun _ _ _ h => h) (by kernel_rfl) ?_ (by assumption) ?_
    rotate_left
    · (intro w' hSw; (try dsimp only at hSw); first | (go_simp; done) | (go_simp; with_reducible rfl))
    (try simp only [Act.put]); (try simp only [List.setIfInBounds_toArray]); (try simp only [List.set_cons_succ]); (try simp only [List.set_cons_zero])
    refine Dp.take_yes (i := 24) (oi := ⟨some 127, _, _, _, _, _⟩) (v := ?_) rfl (by kernel_rfl) (by kernel_rfl) (by kernel_rfl) (fun _ _ _ h => h) (by kernel_rfl) ?_ (by assumption) ?_
    rotate_left
    · (intro w' hSw; (try dsimp only at hSw); first | (go_simp; done) | (go_simp; with_reducible rfl))
    (try simp only [Act.put]); (try simp only [List.setIfInBounds_toArray]); (try simp only [List.set_cons_succ]); (try simp only [List.set_cons_zero])
    refine Dp.take_yes (i := 25) (oi := ⟨some 128, _, _, _, _, _⟩) (v := ?_) rfl (by kernel_rfl) (by kernel_rfl) (by kernel_rfl) (fun _ _ _ h => h) (by kernel_rfl) ?_ (by assumption) ?_
    rotate_left
    · (intro w' hSw; (try dsimp only at hSw); first | (go_simp; done) | (go_simp; with_reducible rfl))
    (try simp only [Act.put]); (try simp only [List.setIfInBounds_toArray]); (try simp only [List.set_cons_succ]); (try simp only [List.set_cons_zero])
    refine Dp.take_yes (i := 26) (oi := ⟨some 129, _, _, _, _, _⟩) (v := ?_) rfl (by kernel_rfl) (by kernel_rfl) (by kernel_rfl) (fun _ _ _ h => h) (by kernel_rfl) ?_ (by assumption) ?_
    rotate_left
    · (intro w' hSw; (try dsimp only at hSw); first | (go_simp; done) | (go_simp; with_reducible rfl))
    (try simp only [Act.put]); (try simp only [List.setIfInBounds_toArray]); (try simp only [List.set_cons_succ]); (try simp only [List.set_cons_zero])
    refine Dp.take_yes (i := 27) (oi := ⟨some 130, _, _, _, _, _⟩) (v := ?_) rfl (by kernel_rfl) (by kernel_rfl) (by kernel_rfl) (fun _ _ _ h => h) (by kernel_rfl) ?_ (by assumption) ?_
    rotate_left
    · (intro w' hSw; (try dsimp only at hSw); first | (go_simp; done) | (go_simp; with_reducible rfl))
    (try simp only [Act.put]); (try simp only [List.setIfInBounds_toArray]); (try simp only [List.set_cons_succ]); (try simp only [List.set_cons_zero])
    refine Dp.take_yes (i := 28) (oi := ⟨some 131, _, _, _, _, _⟩) (v := ?_) rfl (by kernel_rfl) (by kernel_rfl) (by kernel_rfl) (fun _ _ _ h => h) (by kernel_rfl) ?_ (by assumption) ?_
    rotate_left
    · (intro w' hSw; (try dsimp only at hSw); first | (go_simp; done) | (go_simp; with_reducible rfl))
    (try simp only [Act.put]); (try simp only [List.setIfInBounds_toArray]); (try simp only [List.set_cons_succ]); (try simp only [List.set_cons_zero])
    refine Dp.take_yes (i := 29) (oi := ⟨some 132, _, _, _, _, _⟩) (v := ?_) rfl (by kernel_rfl) (by kernel_rfl) (by kernel_rfl) (fun _ _ _ h => h) (by kernel_rfl) ?_ (by assumption) ?_
    rotate_left
    · (intro w' hSw; (try dsimp only at hSw); first | (go_simp; done) | (go_simp; with_reducible rfl))
    (try simp only [Act.put]); (try simp only [List.setIfInBounds_toArray]); (try simp only [List.set_cons_succ]); (try simp only [List.set_cons_zero])
    refine Dp.take_yes (i := 30) (oi := ⟨some 133, _, _, _, _, _⟩) (v := ?_) rfl (by kernel_rfl) (by kernel_rfl) (by kernel_rfl) (fun _ _ _ h => h) (by kernel_rfl) ?_ (by assumption) ?_
    rotate_left
    · (intro w' hSw; (try dsimp only at hSw); first | (go_simp; done) | (go_simp; with_reducible rfl))
    (try simp only [Act.put]); (try simp only [List.setIfInBounds_toArray]); (try simp only [List.set_cons_succ]); (try simp only [List.set_cons_zero])
    refine Dp.take_yes (i := 31) (oi := ⟨some 134, _, _, _, _, _⟩) (v := ?_) rfl (by kernel_rfl) (by kernel_rfl) (by kernel_rfl) (fun _ _ _ h => h) (by kernel_rfl) ?_ (by assumption) ?_
    rotate_left
    · (intro w' hSw; (try dsimp only at hSw); first | (go_simp; done) | (go_simp; with_reducible rfl))
    (try simp only [Act.put]); (try simp only [List.setIfInBounds_toArray]); (try simp only [List.set_cons_succ]); (try simp only [List.set_cons_zero])
    refine Dp.take_yes (i := 32) (oi := ⟨some 135, _, _, _, _, _⟩) (v := ?_) rfl (by kernel_rfl) (by kernel_rfl) (by kernel_rfl) (fun _ _ _ h => h) (by kernel_rfl) ?_ (by assumption) ?_
    rotate_left
    · (intro w' hSw; (try dsimp only at hSw); first | (go_simp; done) | (go_simp; with_reducible rfl))
    (try simp only [Act.put]); (try simp only [List.setIfInBounds_toArray]); (try simp only [List.set_cons_succ]); (try simp only [List.set_cons_zero])
    refine Dp.take_yes (i := 34) (oi := ⟨some 137, _, _, _, _, _⟩) (v := ?_) rfl (by kernel_rfl) (by kernel_rfl) (by kernel_rfl) (fun _ _ _ h => h) (by kernel_rfl) ?_ (by assumption) ?_
    rotate_left
    · (intro w' hSw; (try dsimp only at hSw); first | (go_simp; done) | (go_simp; with_reducible rfl))
    (try simp only [Act.put]); (try simp only [List.setIfInBounds_toArray]); (try simp only [List.set_cons_succ]); (try simp only [List.set_cons_zero])
    refine Dp.take_yes (i := 35) (oi := ⟨some 138, _, _, _, _, _⟩) (v := ?_) rfl (by kernel_rfl) (by kernel_rfl) (by kernel_rfl) (fun _ _ _ h => h) (by kernel_rfl) ?_ (by assumption) ?_
    rotate_left
    · (intro w' hSw; (try dsimp only at hSw); first | (go_simp; done) | (go_simp; with_reducible rfl))
    (try simp only [Act.put]); (try simp only [List.setIfInBounds_toArray]); (try simp only [List.set_cons_succ]); (try simp only [List.set_cons_zero])
    refine wpAnyH_ready (rs := [33]) (by kernel_rfl) (by simp) ?_
    refine AllReadyH.cons (o := ⟨some 136, _, _, _, _, _⟩) rfl (fun K hK => ?_) AllReadyH.nil
    go_simp
    go_at_call 22
    refine (Dp.has_any za i1 i2 hz hhz.out SA.out pa ca (by omega) _ (JIA.out _ k0).toIds).mono ?_
    rintro e w136 ⟨rfl, hb⟩
    have k136 := Dp.keep2 hb k0
    clear hb
    (try go_wp2_with fail)
    refine hK.out _ _ (HC.out _ (by assumption)) (fun hHeld2 => ?_)
    clear hK hHeld; have hHeld := hHeld2; clear hHeld2
    (try simp only [Act.put]); (try simp only [List.setIfInBounds_toArray]); (try simp only [List.set_cons_succ]); (try simp only [List.set_cons_zero])
    refine wpAnyH_ready (rs := [36]) (by kernel_rfl) (by simp) ?_
    refine AllReadyH.cons (o := ⟨some 139, _, _, _, _, _⟩) rfl (fun K hK => ?_) AllReadyH.nil
    go_simp
    go_at_call 23
    refine (Dp.refhas_any za i1 i2 hz hhz.out pp cp _ (JIP.out _ k136).toIds).mono ?_
    rintro e w139 ⟨rfl, hb⟩
    have k139 := Dp.keep2 hb k136
    clear hb k136
    (try go_wp2_with fail)
    refine hK.out _ _ (HC.out _ (by assumption)) (fun hHeld2 => ?_)
    clear hK hHeld; have hHeld := hHeld2; clear hHeld2
    (try simp only [Act.put]); (try simp only [List.setIfInBounds_toArray]); (try simp only [List.set_cons_succ]); (try simp only [List.set_cons_zero])
    refine Dp.take_yes (i := 37) (oi := ⟨some 140, _, _, _, _, _⟩) (v := ?_) rfl (by kernel_rfl) (by kernel_rfl) (by kernel_rfl) (fun _ _ _ h => h) (by kernel_rfl) ?_ (by assumption) ?_
    rotate_left
    · (intro w' hSw; (try dsimp only at hSw); first | (go_simp; done) | (go_simp; with_reducible rfl))
    (try simp only [Act.put]); (try simp only [List.setIfInBounds_toArray]); (try simp only [List.set_cons_succ]); (try simp only [List.set_cons_zero])
    refine Dp.take_yes (i := 38) (oi := ⟨some 141, _, _, _, _, _⟩) (v := ?_) rfl (by kernel_rfl) (by kernel_rfl) (by kernel_rfl) (fun _ _ _ h => h) (by kernel_rfl) ?_ (by assumption) ?_
    rotate_left
    · (intro w' hSw; (try dsimp only at hSw); first | (go_simp; done) | (go_simp; with_reducible rfl))
    (try simp only [Act.put]); (try simp only [List.setIfInBounds_toArray]); (try simp only [List.set_cons_succ]); (try simp only [List.set_cons_zero])
    refine Dp.take_yes (i := 39) (oi := ⟨some 142, _, _, _, _, _⟩) (v := ?_) rfl (by kernel_rfl) (by kernel_rfl) (by kernel_rfl) (fun _ _ _ h => h) (by kernel_rfl) ?_ (by assumption) ?_
    rotate_left
    · (intro w' hSw; (try dsimp only at hSw); first | (go_simp; done) | (go_simp; with_reducible rfl))
    (try simp only [Act.put]); (try simp only [List.setIfInBounds_toArray]); (try simp only [List.set_cons_succ]); (try simp only [List.set_cons_zero])
    refine Dp.take_yes (i := 40) (oi := ⟨some 143, _, _, _, _, _⟩) (v := ?_) rfl (by kernel_rfl) (by kernel_rfl) (by kernel_rfl) (fun _ _ _ h => h) (by kernel_rfl) ?_ (by assumption) ?_
    rotate_left
    · (intro w' hSw; (try dsimp only at hSw); first | (go_simp; done) | (go_simp; with_reducible rfl))
    (try simp only [Act.put]); (try simp only [List.setIfInBounds_toArray]); (try simp only [List.set_cons_succ]); (try simp only [List.set_cons_zero])
    refine Dp.take_yes (i := 42) (oi := ⟨some 145, _, _, _, _, _⟩) (v := ?_) rfl (by kernel_rfl) (by kernel_rfl) (by kernel_rfl) (fun _ _ _ h => h) (by kernel_rfl) ?_ (by assumption) ?_
    rotate_left
    · (intro w' hSw; (try dsimp only at hSw); first | (go_simp; done) | (go_simp; with_reducible rfl))
    (try simp only [Act.put]); (try simp only [List.setIfInBounds_toArray]); (try simp only [List.set_cons_succ]); (try simp only [List.set_cons_zero])
    refine wpAnyH_ready (rs := [41]) (by kernel_rfl) (by simp) ?_
    refine AllReadyH.cons (o := ⟨some 144, _, _, _, _, _⟩) rfl (fun K hK => ?_) AllReadyH.nil
    go_simp
    go_at_call 24
    refine (Dp.right_any i1 i2 rz hrz.out _).mono ?_
    rintro e w144 ⟨rfl, hb⟩
    have k144 := Dp.keep2 hb k139
    clear hb k139
    (try go_wp2_with fail)
    refine hK.out _ _ (HC.out _ (by assumption)) (fun hHeld2 => ?_)
    clear hK hHeld; have hHeld := hHeld2; clear hHeld2
    (try simp only [Act.put]); (try simp only [List.setIfInBounds_toArray]); (try simp only [List.set_cons_succ]); (try simp only [List.set_cons_zero])
    refine wpAnyH_ready (rs := [43]) (by kernel_rfl) (by simp) ?_
    refine AllReadyH.cons (o := ⟨some 146, _, _, _, _, _⟩) rfl (fun K hK => ?_) AllReadyH.nil
    go_simp
    go_at_call 25
    refine (Dp.refright_any i1 i2 rz hrz.out _).mono ?_
    rintro e w146 ⟨rfl, hb⟩
    have k146 := Dp.keep2 hb k144
    clear hb k144
    (try go_wp2_with fail)
    refine hK.out _ _ (HC.out _ (by assumption)) (fun hHeld2 => ?_)
    clear hK hHeld; have hHeld := hHeld2; clear hHeld2
    (try simp only [Act.put]); (try simp only [List.setIfInBounds_toArray]); (try simp only [List.set_cons_succ]); (try simp only [List.set_cons_zero])
    refine Dp.take_yes (i := 44) (oi := ⟨some 147, _, _, _, _, _⟩) (v := ?_) rfl (by kernel_rfl) (by kernel_rfl) (by kernel_rfl) (fun _ _ _ h => h) (by kernel_rfl) ?_ (by assumption) ?_
    rotate_left
    · (intro w' hSw; (try dsimp only at hSw); first | (go_simp; done) | (go_simp; with_reducible rfl))
    (try simp only [Act.put]); (try simp only [List.setIfInBounds_toArray]); (try simp only [List.set_cons_succ]); (try simp only [List.set_cons_zero])
    refine Dp.take_yes (i := 45) (oi := ⟨some 148, _, _, _, _, _⟩) (v := ?_) rfl (by kernel_rfl) (by kernel_rfl) (by kernel_rfl) (fun _ _ _ h => h) (by kernel_rfl) ?_ (by assumption) ?_
    rotate_left
    · (intro w' hSw; (try dsimp only at hSw); first | (go_simp; done) | (go_simp; with_reducible rfl))
    (try simp only [Act.put]); (try simp only [List.setIfInBounds_toArray]); (try simp only [List.set_cons_succ]); (try simp only [List.set_cons_zero])
    refine Dp.take_yes (i := 46) (oi := ⟨some 149, _, _, _, _, _⟩) (v := ?_) rfl (by kernel_rfl) (by kernel_rfl) (by kernel_rfl) (fun _ _ _ h => h) (by kernel_rfl) ?_ (by assumption) ?_
    rotate_left
    · (intro w' hSw; (try dsimp only at hSw); first | (go_simp; done) | (go_simp; with_reducible rfl))
    (try simp only [Act.put]); (try simp only [List.setIfInBounds_toArray]); (try simp only [List.set_cons_succ]); (try simp only [List.set_cons_zero])
    refine Dp.take_yes (i := 47) (oi := ⟨some 150, _, _, _, _, _⟩) (v := ?_) rfl (by kernel_rfl) (by kernel_rfl) (by kernel_rfl) (fun _ _ _ h => h) (by kernel_rfl) ?_ (by assumption) ?_
    rotate_left
    · (intro w' hSw; (try dsimp only at hSw); first | (go_simp; done) | (go_simp; with_reducible rfl))
    (try simp only [Act.put]); (try simp only [List.setIfInBounds_toArray]); (try simp only [List.set_cons_succ]); (try simp only [List.set_cons_zero])
    refine Dp.take_yes (i := 49) (oi := ⟨some 152, _, _, _, _, _⟩) (v := ?_) rfl (by kernel_rfl) (by kernel_rfl) (by kernel_rfl) (fun _ _ _ h => h) (by kernel_rfl) ?_ (by assumption) ?_
    rotate_left
    · (intro w' hSw; (try dsimp only at hSw); first | (go_simp; done) | (go_simp; with_reducible rfl))
    (try simp only [Act.put]); (try simp only [List.setIfInBounds_toArray]); (try simp only [List.set_cons_succ]); (try simp only [List.set_cons_zero])
    refine wpAnyH_ready (rs := [48]) (by kernel_rfl) (by simp) ?_
    refine AllReadyH.cons (o := ⟨some 151, _, _, _, _, _⟩) rfl (fun K hK => ?_) AllReadyH.nil
    go_simp
    go_at_call 26
    refine (Dp.set_any ls sz hsz.out a4 cap4 _ (JL.out _ k146)).mono ?_
    rintro e w151 ⟨rfl, hb⟩
    have k151 := Dp.keep2 hb k146
    clear hb k146
    (try go_wp2_with fail)
    refine hK.out _ _ (HC.out _ (by assumption)) (fun hHeld2 => ?_)
    clear hK hHeld; have hHeld := hHeld2; clear hHeld2
    (try simp only [Act.put]); (try simp only [List.setIfInBounds_toArray]); (try simp only [List.set_cons_succ]); (try simp only [List.set_cons_zero])
    refine wpAnyH_ready (rs := [50]) (by kernel_rfl) (by simp) ?_
    refine AllReadyH.cons (o := ⟨some 153, _, _, _, _, _⟩) rfl (fun K hK => ?_) AllReadyH.nil
    go_simp
    go_at_call 12
    refine (Dp.refset_of ls a4 cap4 (by omega) _ (JL.out _ k151)).mono ?_
    rintro e w153 ⟨pr, cr, rfl, ir, hb⟩
    have k153 := Dp.keep2 hb k151
    clear hb k151
    (try go_wp2_with fail)
    refine hK.out _ _ (HC.out _ (by assumption)) (fun hHeld2 => ?_)
    clear hK hHeld; have hHeld := hHeld2; clear hHeld2
    (try simp only [Act.put]); (try simp only [List.setIfInBounds_toArray]); (try simp only [List.set_cons_succ]); (try simp only [List.set_cons_zero])
    refine wpAnyH_ready (rs := [51]) (by kernel_rfl) (by simp) ?_
    refine AllReadyH.cons (o := ⟨some 154, _, _, _, _, _⟩) rfl (fun K hK => ?_) AllReadyH.nil
    go_simp
    go_at_call 27
    refine (Dp.refset_any ls sz hsz.out pr cr _ ir.toIds).mono ?_
    rintro e w154 ⟨rfl, hb⟩
    have k154 := Dp.keep2 hb k153
    clear hb k153 ir
    (try go_wp2_with fail)
    refine hK.out _ _ (HC.out _ (by assumption)) (fun hHeld2 => ?_)
    clear hK hHeld; have hHeld := hHeld2; clear hHeld2
    (try simp only [Act.put]); (try simp only [List.setIfInBounds_toArray]); (try simp only [List.set_cons_succ]); (try simp only [List.set_cons_zero])
    refine Dp.take_yes (i := 52) (oi := ⟨some 155, _, _, _, _, _⟩) (v := ?_) rfl (by kernel_rfl) (by kernel_rfl) (by kernel_rfl) (fun _ _ _ h => h) (by kernel_rfl) ?_ (by assumption) ?_
    rotate_left
    · (intro w' hSw; (try dsimp only at hSw); first | (go_simp; done) | (go_simp; with_reducible rfl))
    (try simp only [Act.put]); (try simp only [List.setIfInBounds_toArray]); (try simp only [List.set_cons_succ]); (try simp only [List.set_cons_zero])
    refine Dp.take_yes (i := 53) (oi := ⟨some 156, _, _, _, _, _⟩) (v := ?_) rfl (by kernel_rfl) (by kernel_rfl) (by kernel_rfl) (fun _ _ _ h => h) (by kernel_rfl) ?_ (by assumption) ?_
    rotate_left
    · (intro w' hSw; (try dsimp only at hSw); first | (go_simp; done) | (go_simp; with_reducible rfl))
    (try simp only [Act.put]); (try simp only [List.setIfInBounds_toArray]); (try simp only [List.set_cons_succ]); (try simp only [List.set_cons_zero])
    refine Dp.take_yes (i := 54) (oi := ⟨some 157, _, _, _, _, _⟩) (v := ?_) rfl (by kernel_rfl) (by kernel_rfl) (by kernel_rfl) (fun _ _ _ h => h) (by kernel_rfl) ?_ (by assumption) ?_
    rotate_left
    · (intro w' hSw; (try dsimp only at hSw); first | (go_simp; done) | (go_simp; with_reducible rfl))
    (try simp only [Act.put]); (try simp only [List.setIfInBounds_toArray]); (try simp only [List.set_cons_succ]); (try simp only [List.set_cons_zero])
    refine Dp.take_yes (i := 55) (oi := ⟨some 158, _, _, _, _, _⟩) (v := ?_) rfl (by kernel_rfl) (by kernel_rfl) (by kernel_rfl) (fun _ _ _ h => h) (by kernel_rfl) ?_ (by assumption) ?_
    rotate_left
    · (intro w' hSw; (try dsimp only at hSw); first | (go_simp; done) | (go_simp; with_reducible rfl))
    (try simp only [Act.put]); (try simp only [List.setIfInBounds_toArray]); (try simp only [List.set_cons_succ]); (try simp only [List.set_cons_zero])
    refine Dp.take_yes (i := 57) (oi := ⟨some 160, _, _, _, _, _⟩) (v := ?_) rfl (by kernel_rfl) (by kernel_rfl) (by kernel_rfl) (fun _ _ _ h => h) (by kernel_rfl) ?_ (by assumption) ?_
    rotate_left
    · (intro w' hSw; (try dsimp only at hSw); first | (go_simp; done) | (go_simp; with_reducible rfl))
    (try simp only [Act.put]); (try simp only [List.setIfInBounds_toArray]); (try simp only [List.set_cons_succ]); (try simp only [List.set_cons_zero])
    refine wpAnyH_ready (rs := [56]) (by kernel_rfl) (by simp) ?_
    refine AllReadyH.cons (o := ⟨some 159, _, _, _, _, _⟩) rfl (fun K hK => ?_) AllReadyH.nil
    go_simp
    go_at_call 28
    refine (Dp.text_any ls tt htt.out RL.out (by omega) a4 cap4 _ (JL.out _ k154) (TB.out _ k154)).mono ?_
    rintro e w159 ⟨rfl, hb⟩
    have k159 := Dp.keep2 hb k154
    clear hb k154
    (try go_wp2_with fail)
    refine hK.out _ _ (HC.out _ (by assumption)) (fun hHeld2 => ?_)
    clear hK hHeld; have hHeld := hHeld2; clear hHeld2
    (try simp only [Act.put]); (try simp only [List.setIfInBounds_toArray]); (try simp only [List.set_cons_succ]); (try simp only [List.set_cons_zero])
    refine wpAnyH_ready (rs := [58]) (by kernel_rfl) (by simp) ?_
    refine AllReadyH.cons (o := ⟨some 161, _, _, _, _, _⟩) rfl (fun K hK => ?_) AllReadyH.nil
    go_simp
    go_at_call 12
    refine (Dp.refset_of ls a4 cap4 (by omega) _ (JL.out _ k159)).mono ?_
    rintro e w161 ⟨pt, ct, rfl, it, hb⟩
    have k161 := Dp.keep2 hb k159
    clear hb k159
    (try go_wp2_with fail)
    refine hK.out _ _ (HC.out _ (by assumption)) (fun hHeld2 => ?_)
    clear hK hHeld; have hHeld := hHeld2; clear hHeld2
    (try simp only [Act.put]); (try simp only [List.setIfInBounds_toArray]); (try simp only [List.set_cons_succ]); (try simp only [List.set_cons_zero])
    refine wpAnyH_ready (rs := [59]) (by kernel_rfl) (by simp) ?_
    refine AllReadyH.cons (o := ⟨some 162, _, _, _, _, _⟩) rfl (fun K hK => ?_) AllReadyH.nil
    go_simp
    go_at_call 29
    refine (Dp.reftext_any ls tt htt.out RL.out (by omega) pt ct _ it.toIds).mono ?_
    rintro e w162 ⟨rfl, hb⟩
    have k162 := Dp.keep2 hb k161
    clear hb k161 it
    (try go_wp2_with fail)
    refine hK.out _ _ (HC.out _ (by assumption)) (fun hHeld2 => ?_)
    clear hK hHeld; have hHeld := hHeld2; clear hHeld2
    (try simp only [Act.put]); (try simp only [List.setIfInBounds_toArray]); (try simp only [List.set_cons_succ]); (try simp only [List.set_cons_zero])
    refine Dp.take_yes (i := 60) (oi := ⟨some 163, _, _, _, _, _⟩) (v := ?_) rfl (by kernel_rfl) (by kernel_rfl) (by kernel_rfl) (fun _ _ _ h => h) (by kernel_rfl) ?_ (by assumption) ?_
    rotate_left
    · (intro w' hSw; (try dsimp only at hSw); first | (go_simp; done) | (go_simp; with_reducible rfl))
    (try simp only [Act.put]); (try simp only [List.setIfInBounds_toArray]); (try simp only [List.set_cons_succ]); (try simp only [List.set_cons_zero])
    refine Dp.take_yes (i := 61) (oi := ⟨some 164, _, _, _, _, _⟩) (v := ?_) rfl (by kernel_rfl) (by kernel_rfl) (by kernel_rfl) (fun _ _ _ h => h) (by kernel_rfl) ?_ (by assumption) ?_
    rotate_left
    · (intro w' hSw; (try dsimp only at hSw); first | (go_simp; done) | (go_simp; with_reducible rfl))
    (try simp only [Act.put]); (try simp only [List.setIfInBounds_toArray]); (try simp only [List.set_cons_succ]); (try simp only [List.set_cons_zero])
    refine Dp.take_yes (i := 62) (oi := ⟨some 10, _, _, _, _, _⟩) (v := ?_) rfl (by kernel_rfl) (by kernel_rfl) (by kernel_rfl) (fun _ _ _ h => h) (by kernel_rfl) ?_ (by assumption) ?_
    rotate_left
    · (intro w' hSw; (try dsimp only at hSw); first | (go_simp; done) | (go_simp; with_reducible rfl))
    (try simp only [Act.put]); (try simp only [List.setIfInBounds_toArray]); (try simp only [List.set_cons_succ]); (try simp only [List.set_cons_zero])
    refine wpAnyH_done (by kernel_rfl) ?_ _
    go_wp2
    go_ret
    exact ⟨rfl, B_18.out.trans (k162.mono B_18.out.size)⟩

theorem laid_met (os : Os) : laidMet Tryd.prog Rows.depsSetsRow.laid ((World.doorLaid Tryd.prog 24 os).forCall (fun _ _ => 0) ⟨#[], #[.slice none 0 0, .slice none 0 0, .agg #[.int .i64 0, .int .i64 0], .bool false, .slice none 0 0], []⟩).memory :=
  laidMet_of_run' 8 (by kernel_rfl) (by kernel_rfl)
theorem reads (os : Os) {H : Type} (enc : TypeId × Value → H) : ∃ places, DataW.whole enc Tryd.prog ((World.doorLaid Tryd.prog 24 os).forCall (fun _ _ => 0) ⟨#[], #[.slice none 0 0, .slice none 0 0, .agg #[.int .i64 0, .int .i64 0], .bool false, .slice none 0 0], []⟩).memory Tryd.f3.params.toList Rows.depsSetsSpec.vars false (#[.slice none 0 0, .slice none 0 0, .agg #[.int .i64 0, .int .i64 0], .bool false, .slice none 0 0] : Array Value).toList 8 = some ([.nil, .nil, .agg [.lit (.int .i64 0), .lit (.int .i64 0)], .lit (.bool false), .nil], [], places) :=
  ⟨[], by kernel_rfl⟩

set_option maxRecDepth 100000 in
theorem lifted (os : Os) (started : os.Started) (H : Type) (enc : TypeId × Value → H) (F : Stop.Interp) :
    ReturnsInHanded {} Tryd.checked os 3 .any ((OpenSpec.ofChange Rows.depsSetsSpec).preRow enc Tryd.prog Tryd.f3 Rows.depsSetsRow.domain false Rows.depsSetsRow.laid) (((OpenSpec.ofChange Rows.depsSetsSpec).at F).post enc Tryd.prog Tryd.f3 false true false false) := by
  obtain ⟨places, hx⟩ := reads os enc
  refine returnsInHanded_of_row (C := Tryd.checked) (s := OpenSpec.ofChange Rows.depsSetsSpec) own started (by kernel_rfl) Tryd.func3
    (witness_row_at (enc := enc) (C := Tryd.checked) false (World.doorLaid Tryd.prog 24 os) #[.slice none 0 0, .slice none 0 0, .agg #[.int .i64 0, .int .i64 0], .bool false, .slice none 0 0] rfl (by kernel_rfl) (by kernel_rfl) (by kernel_rfl)
      (OpenSpec.preRow_of_cond 8 hx (by kernel_rfl) (fun k hk => by cases hk) (by kernel_rfl) (laid_met os))) ?_
  intro W base args ds gs before hval0 hW _ _ hsz0 hL _ _
  have hval : ∀ (j : Nat) t v, Tryd.f3.params[j]? = some t → args[j]? = some v → Value.okWide Tryd.prog W .any base t v := hval0
  have hsz : (DataW.weightsEach Tryd.prog (Tryd.f3.params.toList ++ Rows.depsSetsSpec.plain.varTypes Tryd.prog) (ds ++ gs)).all (· ≤ reachBytes) = true := hsz0
  have hW' := hW
  obtain ⟨p, q, hA0, hV, rfl, hfz, hnd⟩ := hW
  have hA : DataW.TrodAll enc Tryd.prog W 0 (fun _ => true) true Tryd.f3.params.toList args.toList ds p := hA0
  rw [Tryd.params3] at hA hval hsz
  obtain ⟨v0, vs0, d0, ds0, p0, q0, hargs, rfl, rfl, h0, r0⟩ := trodAll_cons hA
  obtain ⟨v1, vs1, d1, ds1, p1, q1, rfl, rfl, rfl, h1, r1⟩ := trodAll_cons r0
  obtain ⟨v2, vs2, d2, ds2, p2, q2, rfl, rfl, rfl, h2, r2⟩ := trodAll_cons r1
  obtain ⟨v3, vs3, d3, ds3, p3, q3, rfl, rfl, rfl, h3, r3⟩ := trodAll_cons r2
  obtain ⟨v4, vs4, d4, ds4, p4, q4, rfl, rfl, rfl, h4, r4⟩ := trodAll_cons r3
  obtain ⟨rfl, rfl, rfl⟩ := trodAll_nil r4
  obtain rfl : args = #[v0, v1, v2, v3, v4] := by cases args; simp_all
  obtain ⟨rfl, rfl⟩ := trodVars_none hV
  have k0 := h0
  have lt0 : ∀ x ∈ p0, x.block < W.heap.size := by obtain ⟨m, hm⟩ := k0; exact DataW.trod_lt m _ _ _ hm
  have k1 := h1
  have lt1 : ∀ x ∈ p1, x.block < W.heap.size := by obtain ⟨m, hm⟩ := k1; exact DataW.trod_lt m _ _ _ hm
  have k2 := h2
  have lt2 : ∀ x ∈ p2, x.block < W.heap.size := by obtain ⟨m, hm⟩ := k2; exact DataW.trod_lt m _ _ _ hm
  have k4 := h4
  have lt4 : ∀ x ∈ p4, x.block < W.heap.size := by obtain ⟨m, hm⟩ := k4; exact DataW.trod_lt m _ _ _ hm
  obtain ⟨a0, len0, cap0, rfl⟩ := okWide_slice Tryd.underlying22 (hval 0 22 v0 rfl rfl)
  obtain ⟨a1, len1, cap1, rfl⟩ := okWide_slice Tryd.underlying22 (hval 1 22 v1 rfl rfl)
  obtain ⟨c2_0, c2_1, y2_0, y2_1, m2, rfl, rfl, hp2, g2_0, g2_1⟩ := open_agg2 Tryd.underlying24 (by kernel_rfl) (by kernel_rfl) (hval 2 24 v2 rfl rfl) h2
  obtain ⟨a2_0, e2_0, rfl, w2_0⟩ := DataW.trod_int Tryd.underlying3 g2_0
  obtain rfl : c2_0 = .int .i64 a2_0 := by simpa using e2_0
  obtain ⟨a2_1, e2_1, rfl, w2_1⟩ := DataW.trod_int Tryd.underlying3 g2_1
  obtain rfl : c2_1 = .int .i64 a2_1 := by simpa using e2_1
  obtain ⟨a3, rfl, rfl, rfl⟩ := open_bool Tryd.underlying4 (hval 3 4 v3 rfl rfl) h3
  obtain ⟨a4, len4, cap4, rfl⟩ := okWide_slice Tryd.underlying25 (hval 4 25 v4 rfl rfl)
  clear hA0 hval0
  have b0 : (∀ i, i < len0 → ∃ (x : Addr) (e0 : Int), a0 = some x ∧ x.block < W.heap.size ∧ W.cell? (x.add i) = some (.int .u8 e0) ∧ (Lit.int .u8 e0).wf = true) ∧ len0 ≤ cap0 ∧ cap0 ≤ maxLen := by
    obtain ⟨fuel, hf⟩ := h0
    rcases open_ints Tryd.underlying22 Tryd.underlying5 (by kernel_rfl) hf with ⟨hcs, _⟩ | ⟨x, l, c, zs, hcs, _, hl, hm, hsl, _, hel, hwf⟩
    · simp [Value.cells] at hcs
      obtain ⟨rfl, rfl, rfl⟩ := hcs
      exact ⟨fun i hi => absurd hi (by omega), Nat.le_refl _, Nat.zero_le _⟩
    · simp [Value.cells] at hcs
      obtain ⟨rfl, rfl, rfl⟩ := hcs
      refine ⟨fun i hi => ?_, hl, hm⟩
      have hi' : i < zs.length := by rw [hsl]; split <;> omega
      have c0 := hel i hi'
      have hb := World.block_lt_of_cell? _ _ c0
      rw [Pk.block_add] at hb
      exact ⟨x, _, rfl, hb, c0, hwf _ (by rw [List.getD_eq_getElem?_getD, List.getElem?_eq_getElem hi']; exact List.getElem_mem hi')⟩
  obtain ⟨w0, l0, m0⟩ := b0
  have b1 : (∀ i, i < len1 → ∃ (x : Addr) (e0 : Int), a1 = some x ∧ x.block < W.heap.size ∧ W.cell? (x.add i) = some (.int .u8 e0) ∧ (Lit.int .u8 e0).wf = true) ∧ len1 ≤ cap1 ∧ cap1 ≤ maxLen := by
    obtain ⟨fuel, hf⟩ := h1
    rcases open_ints Tryd.underlying22 Tryd.underlying5 (by kernel_rfl) hf with ⟨hcs, _⟩ | ⟨x, l, c, zs, hcs, _, hl, hm, hsl, _, hel, hwf⟩
    · simp [Value.cells] at hcs
      obtain ⟨rfl, rfl, rfl⟩ := hcs
      exact ⟨fun i hi => absurd hi (by omega), Nat.le_refl _, Nat.zero_le _⟩
    · simp [Value.cells] at hcs
      obtain ⟨rfl, rfl, rfl⟩ := hcs
      refine ⟨fun i hi => ?_, hl, hm⟩
      have hi' : i < zs.length := by rw [hsl]; split <;> omega
      have c0 := hel i hi'
      have hb := World.block_lt_of_cell? _ _ c0
      rw [Pk.block_add] at hb
      exact ⟨x, _, rfl, hb, c0, hwf _ (by rw [List.getD_eq_getElem?_getD, List.getElem?_eq_getElem hi']; exact List.getElem_mem hi')⟩
  obtain ⟨w1, l1, m1⟩ := b1
  have b4 : (∀ i, i < len4 → ∃ (x : Addr) (e0 : Int) (e1 : Int), a4 = some x ∧ x.block < W.heap.size ∧ W.cell? (x.add (i * 2)) = some (.int .i64 e0) ∧ W.cell? (x.add (i * 2 + 1)) = some (.int .i64 e1) ∧ (Lit.int .i64 e0).wf = true ∧ (Lit.int .i64 e1).wf = true) ∧ len4 ≤ cap4 ∧ cap4 ≤ maxLen ∧ cap4 * Tryd.prog.bytesOf 24 ≤ reachBytes := by
    obtain ⟨fuel, hf⟩ := h4
    rcases open_slice_pairs Tryd.underlying25 Tryd.underlying24 (by kernel_rfl) rfl rfl (by kernel_rfl) (by kernel_rfl) hf with ⟨hcs, _⟩ | ⟨x, l, c, m, k, V0, V1, D0, D1, P0, P1, hcs, _, hl, hm, hmm, hx, hel⟩
    · simp [Value.cells] at hcs
      obtain ⟨rfl, rfl, rfl⟩ := hcs
      exact ⟨fun i hi => absurd hi (by omega), Nat.le_refl _, Nat.zero_le _, by simp⟩
    · simp [Value.cells] at hcs
      obtain ⟨rfl, rfl, rfl⟩ := hcs
      have hmc : m = cap4 := by rw [hmm]; simp
      have hd : d4 = _ := (Prod.mk.inj hx).1
      subst hd
      have hz := sized_slice hsz (j := 4) (t := 25) rfl rfl Tryd.underlying25
      simp only [List.length_map, List.length_range] at hz
      refine ⟨fun i hi => ?_, hl, hm, by rw [show len4 + (m - len4) = cap4 by omega] at hz; exact hz⟩
      obtain ⟨c0, c1, t0, t1⟩ := hel i (by omega)
      obtain ⟨e0, q0, _, s0⟩ := DataW.trod_int Tryd.underlying3 t0
      have r0 : V0 i = .int .i64 e0 := by simpa using q0
      obtain ⟨e1, q1, _, s1⟩ := DataW.trod_int Tryd.underlying3 t1
      have r1 : V1 i = .int .i64 e1 := by simpa using q1
      rw [r0] at c0
      rw [r1] at c1
      have hb := World.block_lt_of_cell? _ _ c0
      rw [Pk.block_add] at hb
      exact ⟨x, e0, e1, rfl, hb, c0, c1, s0, s1⟩
  obtain ⟨w4, l4, m4, z4⟩ := b4
  have z4 := Nat.le_trans z4 (show reachBytes ≤ 140737488351232 by decide)
  refine (walk a0 len0 cap0 a1 len1 cap1 a2_0 a2_1 a3 a4 len4 cap4 W w0 l0 m0 w1 l1 m1 w2_0 w2_1 w4 l4 m4 z4 (Bl.tab_of hL)).mono fun e W' ⟨he, bel⟩ => ?_
  subst he
  exact ⟨_, rfl, _, _, _, [], _, [], hW', trodAll_mk1 (shut_bool Tryd.underlying4 _), (trodAll_cons_mk (Below.trod laidOut (by kernel_rfl) (of_decide_eq_true (by kernel_rfl)) k0 bel lt0) (trodAll_cons_mk (Below.trod laidOut (by kernel_rfl) (of_decide_eq_true (by kernel_rfl)) k1 bel lt1) (trodAll_cons_mk (Below.trod laidOut (by kernel_rfl) (of_decide_eq_true (by kernel_rfl)) k2 bel lt2) (trodAll_cons_mk (shut_bool Tryd.underlying4 _) (trodAll_cons_mk (Below.trod laidOut (by kernel_rfl) (of_decide_eq_true (by kernel_rfl)) k4 bel lt4) trodAll_mk0))))), rfl, bel.frame _, fun h => by cases h⟩

theorem over : Rows.depsSetsRow.holds Tryd.pinned (OpenSpec.ofChange Rows.depsSetsSpec) :=
  OpenClaim.holds_of_cond 3 Tryd.f3 rfl rfl rfl rfl rfl rfl rfl ⟨rfl, rfl, rfl, rfl, rfl⟩ rfl rfl rfl rfl rfl (by kernel_rfl) Tryd.func3 (by kernel_rfl)
    (of_decide_eq_true (by kernel_rfl)) (by unfold Func.isWrapper; first | (rw [if_pos (by decide +kernel)]; kernel_rfl) | (rw [if_neg (by decide +kernel)]; exact ⟨rfl, rfl⟩))
    (fun os started H enc _ F => by rw [OpenClaim.pre_eq_preRow]; exact lifted os started H enc F)

/-- No parameter wants a stand-in. -/
theorem plain (f : FuncId) (fn : Func) (hf : Tryd.pinned.checked.prog.funcNamed "comitia/comitialaw08.DepsSets" = some f) (hfn : Tryd.pinned.checked.prog.funcs[f]? = some fn) :
    false = Tryd.pinned.checked.prog.looks [] ∧ ∀ (j : Nat) t, fn.params[j]? = some t → Tryd.pinned.checked.prog.wantsStandIn t = false := by
  obtain rfl : f = 3 := Option.some.inj ((show Tryd.prog.funcNamed "comitia/comitialaw08.DepsSets" = some 3 by kernel_rfl).symm.trans hf) |>.symm
  obtain rfl : fn = Tryd.f3 := (Option.some.inj (Tryd.func3.symm.trans hfn)).symm
  refine ⟨by kernel_rfl, fun j t ht => ?_⟩
  rw [Tryd.params3] at ht
  have hm : t ∈ [22, 22, 24, 4, 25] := by simpa using Array.mem_of_getElem? ht
  have hall : ([22, 22, 24, 4, 25].all fun u => !Tryd.prog.wantsStandIn u) = true := by kernel_rfl
  exact (show Tryd.prog.wantsStandIn t = false by simpa using List.all_eq_true.1 hall t hm)

theorem proved : Rows.DepsSetsCardSaid :=
  Claim7.holds_tied_plain_at .later [] _ _ _ _ over (fun _ h => by cases h) (by kernel_rfl) (fun _ h => by cases h) depsSets_row_tie rfl ⟨rfl, rfl⟩ (by kernel_rfl) rfl plain (by kernel_rfl)
end Go.Proofs.YthcdbeggegmlmaaDoor.depsSets
