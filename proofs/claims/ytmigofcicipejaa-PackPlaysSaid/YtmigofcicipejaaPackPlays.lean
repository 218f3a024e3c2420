/-
  Proved: for every reader, every deeds, number, size, text and long the law PackPlays returns true and leaves its inputs as they were. No condition beyond the form's own reach (each text and slice at most 2^47 - 4096 bytes).
-/
import Derived.Test.YtmigofcicipejaaPackE
import Derived.WalkKit
import Derived.Deep.CutBlock
import Derived.Deep.QuietTactic
import Derived.Deep.DrawnRows
import Derived.Deep.DeepCutAuto
import Derived.Deep.RegionHeld3
import Derived.ProofKit
import Derived.OpenShut
import Derived.ShutString
import Derived.SizedLaws
import Derived.ChangeOld
import Derived.Below
import Derived.Carry
import Derived.Lib.SmallJoins
import Derived.Deep.SlicePairs
namespace Go.Proofs.Ytmigofcicipejaa.packPlays
open Go.ChangeShapes Go.WideShapes Go.ChangeAt Go.RowKit Go.Joins Go.Deep
open Go.ChangeMaps (open_string shut_string)
set_option linter.unusedVariables false

theorem own : ownKnob Try.prog.godebug = none := by kernel_rfl
theorem laidOut : laidOutB Try.prog = true := by kernel_rfl

set_option maxRecDepth 100000 in
set_option maxHeartbeats 4000000 in
theorem walk (a0_0 : ByteArray) (a0_1 : Bool) (a1 : Option Addr) (len1 cap1 : Nat) (a2 : Int) (a3 : Int) (a4 : ByteArray) (a5 : Int) (w : World) (z0_0 : a0_0.size ≤ 140737488351232) (w1 : ∀ i, i < len1 → ∃ (x : Addr) (e0 : Int) (e1 : Int), a1 = some x ∧ x.block < w.heap.size ∧ w.cell? (x.add (i * 2)) = some (.int .u8 e0) ∧ w.cell? (x.add (i * 2 + 1)) = some (.int .i64 e1) ∧ (Lit.int .u8 e0).wf = true ∧ (Lit.int .i64 e1).wf = true) (l1 : len1 ≤ cap1) (m1 : cap1 ≤ maxLen) (z1 : cap1 * Try.prog.bytesOf 30 ≤ 140737488351232) (w2 : (Lit.int .u64 a2).wf = true) (w3 : (Lit.int .i64 a3).wf = true) (z4 : a4.size ≤ 140737488351232) (w5 : (Lit.int .u32 a5).wf = true) :
    Calls Try.prog 3 #[.agg #[.string a0_0, .bool a0_1], .slice a1 len1 cap1, .int .u64 a2, .int .i64 a3, .string a4, .int .u32 a5] w fun e w' => e = .returned (.bool true) ∧ Below w.heap.size w w' := by
  have hb2 : 0 ≤ a2 ∧ a2 ≤ 18446744073709551615 := by simpa [Lit.wf, IntKind.min, IntKind.max, IntKind.signed, IntKind.bits] using w2
  have hb3 : -9223372036854775808 ≤ a3 ∧ a3 ≤ 9223372036854775807 := by simpa [Lit.wf, IntKind.min, IntKind.max, IntKind.signed, IntKind.bits] using w3
  have hb5 : 0 ≤ a5 ∧ a5 ≤ 4294967295 := by simpa [Lit.wf, IntKind.min, IntKind.max, IntKind.signed, IntKind.bits] using w5
  obtain ⟨n2, rfl⟩ := Int.eq_ofNat_of_zero_le hb2.1
  obtain ⟨n5, rfl⟩ := Int.eq_ofNat_of_zero_le hb5.1
  unfold maxLen at m1
  have hlen : len1 ≤ 9223372036854775807 := by omega
  go_enter Try.func3, Try.ntmps3
  go_wp2_with fail
  refine (Pk.examples_any _).mono ?_
  rintro e x1 ⟨rfl, hb⟩
  have ⟨k6, bel⟩ := Pk.box1 hb
  clear hb
  have ⟨A0, A1, A2, A3, A4⟩ := k6
  go_wp2_with fail
  have tw : Pk.Twin w w.heap.size w.heap.size x1.heap.size a0_0 a0_1 (x1.alloc (.cells #[.string a0_0, .bool a0_1] 28)) := ⟨k6.alloc _, Pk.Box.new x1 a0_0 a0_1 28, bel.alloc (Nat.le_of_lt A0) _, by omega, Nat.le_refl _, Nat.le_of_lt A0⟩
  clear A0 A1 A2 A3 A4 k6 bel
  generalize x1.alloc (.cells #[.string a0_0, .bool a0_1] 28) = X1 at *
  generalize x1.heap.size = g at *
  go_loopw [15] (fun i W => ∃ (k : Nat) (s : ByteArray) (b : Bool), k ≤ len1 ∧ i = .int .i64 k ∧ s.size ≤ 140737488351232 ∧ Pk.Twin w w.heap.size w.heap.size g s b W) (fun i _ => len1 - (intOf i).toNat)
  case atStart => exact ⟨0, a0_0, a0_1, Nat.zero_le _, rfl, z0_0, tw⟩
  case round =>
    obtain ⟨k, s, b, hk, rfl, hs, tw⟩ := hrel
    by_cases hlt : k < len1
    · by_cases h20 : k < 20
      · obtain ⟨x, e0, e1, rfl, hxb, hc0, hc1, he0, he1⟩ := w1 k hlt
        have hc0' := (tw.2.2.1.cell (p := x.add (k * 2)) (by rw [Pk.block_add]; exact hxb)).trans hc0
        have hc1' := (tw.2.2.1.cell (p := x.add (k * 2 + 1)) (by rw [Pk.block_add]; exact hxb)).trans hc1
        have hkk : (0 : Int) ≤ (k : Int) := by omega
        have hkl : (k : Int) < (len1 : Int) := by omega
        rw [Pk.add_one] at hc1'
        clear hc0 hc1
        have hc8 : 0 ≤ e0 ∧ e0 ≤ 255 := by simpa [Lit.wf, IntKind.min, IntKind.max, IntKind.signed, IntKind.bits] using he0
        obtain ⟨c, rfl⟩ := Int.eq_ofNat_of_zero_le hc8.1
        have hsm : s.size ≤ maxLen := by unfold maxLen; omega
        have hs2 : s.size ≤ 281474976710656 := by omega
        go_upto_if 64 with fail
        go_cut [16] (fun s16 wx => ∃ z : Int, s16 = .int .i64 z ∧ wx = wr)
        case first =>
          go_wp2_with fail
          all_goals (go_meet; exact ⟨_, rfl, rfl⟩)
        case rest =>
          obtain ⟨z, rfl, rfl⟩ := hcut
          clear hc1' he0 he1
          go_upto_block 2 with fail
          go_cut [17, 72] (fun s17 _ wx => s17 = .bool true ∧ ∃ (y : ByteArray) (q : Bool), y.size ≤ 140737488351232 ∧ Pk.Twin w w.heap.size w.heap.size g y q wx)
          case first =>
            rcases (show c % 4 = 0 ∨ c % 4 = 1 ∨ c % 4 = 2 ∨ c % 4 = 3 by omega) with hr | hr | hr | hr
            · have hr' : (c : Int) % 4 = 0 := by omega
              clear hr
              obtain ⟨n, y, q, hH⟩ : ∃ n y q, Pk.number s b z = (n, y, q) := ⟨_, _, _, rfl⟩
              have hys : y.size ≤ 140737488351232 := by have := Pk.number_size s b z; rw [hH] at this; exact Nat.le_trans this hs
              have H := Lib.hid hH
              clear hH
              have ⟨T0, T1, T2, T3⟩ := tw.cells
              go_wp2_with fail
              refine (Pk.number_any s b z n y q H.out hsm _).mono ?_
              rintro e x2 ⟨rfl, hb⟩
              have tw2 := Pk.Twin.keep hb tw
              have ⟨U0, U1, U2, U3⟩ := tw2.cells
              have hlt2 := tw2.2.1.1
              clear hb T0 T1 T2 T3 tw
              go_wp2_with fail
              have tw3 := tw2.alloc (.cells #[.string y, .bool q] 23)
              have p3 := Pk.Box.new x2 y q 23
              clear U0 U1 U2 U3 hlt2 tw2
              generalize x2.alloc (.cells #[.string y, .bool q] 23) = X2 at *
              generalize x2.heap.size = g2 at *
              refine (Pk.refnumber_any s b z n y q H.out hsm _).mono ?_
              rintro e x3 ⟨rfl, hb⟩
              have tw4 := Pk.Twin.keep hb tw3
              have p4 := p3.keep hb p3.1
              clear hb tw3 p3
              have ⟨P0, P1, P2, P3, P4⟩ := p4
              have ⟨⟨V0, V1, V2, V3, V4⟩, ⟨U0, U1, U2, U3, U4⟩, _⟩ := tw4
              go_wp2_with fail
              have tw5 := (tw4.put y q).alloc (.cells #[.string y, .bool q] 28)
              go_meet
              exact ⟨rfl, y, q, hys, tw5⟩
            · have hr' : (c : Int) % 4 = 1 := by omega
              clear hr
              obtain ⟨n, y, q, hH⟩ : ∃ n y q, Pk.text s b = (n, y, q) := ⟨_, _, _, rfl⟩
              have hys : y.size ≤ 140737488351232 := by have := Pk.text_size s b; rw [hH] at this; exact Nat.le_trans this hs
              have H := Lib.hid hH
              clear hH
              have ⟨T0, T1, T2, T3⟩ := tw.cells
              go_wp2_with fail
              refine (Pk.text_any s b n y q H.out hs2 _).mono ?_
              rintro e x2 ⟨rfl, hb⟩
              have tw2 := Pk.Twin.keep hb tw
              have ⟨U0, U1, U2, U3⟩ := tw2.cells
              have hlt2 := tw2.2.1.1
              clear hb T0 T1 T2 T3 tw
              go_wp2_with fail
              have tw3 := tw2.alloc (.cells #[.string y, .bool q] 23)
              have p3 := Pk.Box.new x2 y q 23
              clear U0 U1 U2 U3 hlt2 tw2
              generalize x2.alloc (.cells #[.string y, .bool q] 23) = X2 at *
              generalize x2.heap.size = g2 at *
              refine (Pk.reftext_any s b n y q H.out hs2 _).mono ?_
              rintro e x3 ⟨rfl, hb⟩
              have tw4 := Pk.Twin.keep hb tw3
              have p4 := p3.keep hb p3.1
              clear hb tw3 p3
              have ⟨P0, P1, P2, P3, P4⟩ := p4
              have ⟨⟨V0, V1, V2, V3, V4⟩, ⟨U0, U1, U2, U3, U4⟩, _⟩ := tw4
              go_wp2_with fail
              have tw5 := (tw4.put y q).alloc (.cells #[.string y, .bool q] 28)
              go_meet
              exact ⟨rfl, y, q, hys, tw5⟩
            · have hr' : (c : Int) % 4 = 2 := by omega
              clear hr
              obtain ⟨n, y, q, hH⟩ : ∃ n y q, Pk.flag s b = (n, y, q) := ⟨_, _, _, rfl⟩
              have hys : y.size ≤ 140737488351232 := by have := Pk.flag_size s b; rw [hH] at this; exact Nat.le_trans this hs
              have H := Lib.hid hH
              clear hH
              have ⟨T0, T1, T2, T3⟩ := tw.cells
              go_wp2_with fail
              refine (Pk.flag_any s b n y q H.out hsm _).mono ?_
              rintro e x2 ⟨rfl, hb⟩
              have tw2 := Pk.Twin.keep hb tw
              have ⟨U0, U1, U2, U3⟩ := tw2.cells
              have hlt2 := tw2.2.1.1
              clear hb T0 T1 T2 T3 tw
              go_wp2_with fail
              have tw3 := tw2.alloc (.cells #[.string y, .bool q] 23)
              have p3 := Pk.Box.new x2 y q 23
              clear U0 U1 U2 U3 hlt2 tw2
              generalize x2.alloc (.cells #[.string y, .bool q] 23) = X2 at *
              generalize x2.heap.size = g2 at *
              refine (Pk.refflag_any s b n y q H.out hsm _).mono ?_
              rintro e x3 ⟨rfl, hb⟩
              have tw4 := Pk.Twin.keep hb tw3
              have p4 := p3.keep hb p3.1
              clear hb tw3 p3
              have ⟨P0, P1, P2, P3, P4⟩ := p4
              have ⟨⟨V0, V1, V2, V3, V4⟩, ⟨U0, U1, U2, U3, U4⟩, _⟩ := tw4
              go_wp2_with fail
              have tw5 := (tw4.put y q).alloc (.cells #[.string y, .bool q] 28)
              go_meet
              exact ⟨rfl, y, q, hys, tw5⟩
            · have hr' : (c : Int) % 4 = 3 := by omega
              clear hr
              obtain ⟨n, y, q, hH⟩ : ∃ n y q, Pk.next s b z = (n, y, q) := ⟨_, _, _, rfl⟩
              have hys : y.size ≤ 140737488351232 := by have := (Pk.next_size s b z).2; rw [hH] at this; exact Nat.le_trans this hs
              have H := Lib.hid hH
              clear hH
              have ⟨T0, T1, T2, T3⟩ := tw.cells
              go_wp2_with fail
              refine (Pk.bytes_any s b z n y q H.out hs2 _).mono ?_
              rintro e x2 ⟨rfl, hb⟩
              have tw2 := Pk.Twin.keep hb tw
              have ⟨U0, U1, U2, U3⟩ := tw2.cells
              have hlt2 := tw2.2.1.1
              clear hb T0 T1 T2 T3 tw
              go_wp2_with fail
              have tw3 := tw2.alloc (.cells #[.string y, .bool q] 23)
              have p3 := Pk.Box.new x2 y q 23
              clear U0 U1 U2 U3 hlt2 tw2
              generalize x2.alloc (.cells #[.string y, .bool q] 23) = X2 at *
              generalize x2.heap.size = g2 at *
              refine (Pk.refbytes_any s b z n y q H.out hsm _).mono ?_
              rintro e x3 ⟨rfl, hb⟩
              have tw4 := Pk.Twin.keep hb tw3
              have p4 := p3.keep hb p3.1
              clear hb tw3 p3
              have ⟨P0, P1, P2, P3, P4⟩ := p4
              have ⟨⟨V0, V1, V2, V3, V4⟩, ⟨U0, U1, U2, U3, U4⟩, _⟩ := tw4
              go_wp2_with fail
              have tw5 := (tw4.put y q).alloc (.cells #[.string y, .bool q] 28)
              go_meet
              exact ⟨rfl, y, q, hys, tw5⟩
          case rest =>
            obtain ⟨rfl, y, q, hys, tw5⟩ := hcut
            clear tw hc0'
            go_upto_region 37 with fail
            generalize wc = V at *
            have tw6 := tw5.drew
            go_region_held3 (fun w' => w'.cell? ⟨w.heap.size, 0, none⟩ = some (.string y) ∧ w'.cell? ⟨w.heap.size, 1, none⟩ = some (.bool q) ∧ w'.cell? ⟨g, 0, none⟩ = some (.string y) ∧ w'.cell? ⟨g, 1, none⟩ = some (.bool q))
              (first | exact Pk.Twin.cells (by assumption))
              (first | (go_at_call 16; refine (Pk.done_any y q _).mono ?_; rintro e w2 ⟨rfl, hb2⟩; have tw7 := Pk.Twin.keep hb2 (by assumption)) | (go_at_call 17; refine (Pk.refdone_any y q _).mono ?_; rintro e w3 ⟨rfl, hb3⟩; have tw8 := Pk.Twin.keep hb3 (by assumption)))
            clear tw5 tw6 tw7 hb2 hb3
            go_wp2
            refine ⟨⟨k + 1, y, q, by omega, by go_num, hys, tw8⟩, by simp [intOf]; omega⟩
      · have hge : ¬ (k : Int) < 20 := by omega
        have bel0 := tw.2.2.1
        have hbs := bel0.size
        have hn2 : n2 < 18446744073709551616 := by omega
        clear tw w1
        by_cases h5 : n5 % 5 = 0
        · have h5' : (n5 : Int) % 5 = 0 := by omega
          clear h5
          obtain ⟨m, hm⟩ : ∃ m, n5 % 70000 = m := ⟨_, rfl⟩
          have hm' : (n5 : Int) % 70000 = (m : Int) := by omega
          have hml : m < 70000 := by omega
          clear hm
          have hmk := Pk.make_bytes m (by omega)
          have hbk := (Pk.zeros_bytes wr m).back_any (P := Try.prog) 45 9 5 m m (by simp) Try.underlying45 Try.underlying5 Try.underlying9 0
          rw [World.drewN_zero] at hbk
          obtain ⟨Z, hZ⟩ : ∃ Z : ByteArray, ⟨(List.replicate m (0 : UInt8)).toArray⟩ = Z := ⟨_, rfl⟩
          have hZs : Z.size = m := by rw [← hZ]; show (List.replicate m (0 : UInt8)).toArray.size = m; simp
          rw [hZ] at hbk
          obtain ⟨t, ht⟩ : ∃ t, a4 ++ Z = t := ⟨_, rfl⟩
          have hts : t.size ≤ 281474976702464 := by rw [← ht, Pk.cat_size]; omega
          have hcat : a4.size + Z.size ≤ 9223372036854775807 := by omega
          obtain ⟨T, ok, hT⟩ : ∃ T ok, Pk.textB t = (T, ok) := ⟨_, _, rfl⟩
          have HT := Lib.hid hT
          clear hT hZ hZs
          have bel0 := bel0.alloc hbs (.cells (Pk.zeros m) 5)
          go_wp2_with fail
          refine (Pk.puttext_any t T ok HT.out hts _).mono ?_
          rintro e x1 ⟨rfl, hb⟩
          have bel1 : Below w.heap.size w x1 := (bel0.trans (hb.mono bel0.size))
          clear hb bel0
          go_wp2_with fail
          refine (Pk.refputtext_any t T ok HT.out hts _).mono ?_
          rintro e x2 ⟨rfl, hb⟩
          have bel2 : Below w.heap.size w x2 := (bel1.trans (hb.mono bel1.size))
          clear hb bel1
          go_wp2_with fail
          refine (Pk.put_any n2 a3 hn2 _).mono ?_
          rintro e x3 ⟨rfl, hb⟩
          have bel3 : Below w.heap.size w x3 := (bel2.trans (hb.mono bel2.size))
          clear hb bel2
          go_wp2_with fail
          refine (Pk.ref_put_any n2 a3 hn2 _).mono ?_
          rintro e x4 ⟨rfl, hb⟩
          have bel4 : Below w.heap.size w x4 := (bel3.trans (hb.mono bel3.size))
          clear hb bel3
          go_wp2_with fail
          refine (Pk.put_any n2 (a3.tmod 10) hn2 _).mono ?_
          rintro e x5 ⟨rfl, hb⟩
          have bel5 : Below w.heap.size w x5 := (bel4.trans (hb.mono bel4.size))
          clear hb bel4
          go_wp2_with fail
          refine (Pk.ref_put_any n2 (a3.tmod 10) hn2 _).mono ?_
          rintro e x6 ⟨rfl, hb⟩
          have bel6 : Below w.heap.size w x6 := (bel5.trans (hb.mono bel5.size))
          clear hb bel5
          go_wp2_with fail
          refine (Pk.putflag_any _ _).mono ?_
          rintro e x7 ⟨rfl, hb⟩
          have bel7 : Below w.heap.size w x7 := (bel6.trans (hb.mono bel6.size))
          clear hb bel6
          go_wp2_with fail
          refine (Pk.refputflag_any _ _).mono ?_
          rintro e w2 ⟨rfl, rfl⟩
          go_wp2
          go_ret
          exact ⟨rfl, bel7⟩
        · have h5' : ((n5 : Int) % 5 == 0) = false := by rw [beq_eq_false_iff_ne]; omega
          have hts : a4.size ≤ 281474976702464 := by omega
          obtain ⟨T, ok, hT⟩ : ∃ T ok, Pk.textB a4 = (T, ok) := ⟨_, _, rfl⟩
          have HT := Lib.hid hT
          clear hT h5
          go_wp2_with fail
          refine (Pk.puttext_any a4 T ok HT.out hts _).mono ?_
          rintro e x1 ⟨rfl, hb⟩
          have bel1 : Below w.heap.size w x1 := (bel0.trans (hb.mono bel0.size))
          clear hb bel0
          go_wp2_with fail
          refine (Pk.refputtext_any a4 T ok HT.out hts _).mono ?_
          rintro e x2 ⟨rfl, hb⟩
          have bel2 : Below w.heap.size w x2 := (bel1.trans (hb.mono bel1.size))
          clear hb bel1
          go_wp2_with fail
          refine (Pk.put_any n2 a3 hn2 _).mono ?_
          rintro e x3 ⟨rfl, hb⟩
          have bel3 : Below w.heap.size w x3 := (bel2.trans (hb.mono bel2.size))
          clear hb bel2
          go_wp2_with fail
          refine (Pk.ref_put_any n2 a3 hn2 _).mono ?_
          rintro e x4 ⟨rfl, hb⟩
          have bel4 : Below w.heap.size w x4 := (bel3.trans (hb.mono bel3.size))
          clear hb bel3
          go_wp2_with fail
          refine (Pk.put_any n2 (a3.tmod 10) hn2 _).mono ?_
          rintro e x5 ⟨rfl, hb⟩
          have bel5 : Below w.heap.size w x5 := (bel4.trans (hb.mono bel4.size))
          clear hb bel4
          go_wp2_with fail
          refine (Pk.ref_put_any n2 (a3.tmod 10) hn2 _).mono ?_
          rintro e x6 ⟨rfl, hb⟩
          have bel6 : Below w.heap.size w x6 := (bel5.trans (hb.mono bel5.size))
          clear hb bel5
          go_wp2_with fail
          refine (Pk.putflag_any _ _).mono ?_
          rintro e x7 ⟨rfl, hb⟩
          have bel7 : Below w.heap.size w x7 := (bel6.trans (hb.mono bel6.size))
          clear hb bel6
          go_wp2_with fail
          refine (Pk.refputflag_any _ _).mono ?_
          rintro e w2 ⟨rfl, rfl⟩
          go_wp2
          go_ret
          exact ⟨rfl, bel7⟩
    · have hge : ¬ (k : Int) < (len1 : Int) := by omega
      have bel0 := tw.2.2.1
      have hbs := bel0.size
      have hn2 : n2 < 18446744073709551616 := by omega
      clear tw w1
      by_cases h5 : n5 % 5 = 0
      · have h5' : (n5 : Int) % 5 = 0 := by omega
        clear h5
        obtain ⟨m, hm⟩ : ∃ m, n5 % 70000 = m := ⟨_, rfl⟩
        have hm' : (n5 : Int) % 70000 = (m : Int) := by omega
        have hml : m < 70000 := by omega
        clear hm
        have hmk := Pk.make_bytes m (by omega)
        have hbk := (Pk.zeros_bytes wr m).back_any (P := Try.prog) 45 9 5 m m (by simp) Try.underlying45 Try.underlying5 Try.underlying9 0
        rw [World.drewN_zero] at hbk
        obtain ⟨Z, hZ⟩ : ∃ Z : ByteArray, ⟨(List.replicate m (0 : UInt8)).toArray⟩ = Z := ⟨_, rfl⟩
        have hZs : Z.size = m := by rw [← hZ]; show (List.replicate m (0 : UInt8)).toArray.size = m; simp
        rw [hZ] at hbk
        obtain ⟨t, ht⟩ : ∃ t, a4 ++ Z = t := ⟨_, rfl⟩
        have hts : t.size ≤ 281474976702464 := by rw [← ht, Pk.cat_size]; omega
        have hcat : a4.size + Z.size ≤ 9223372036854775807 := by omega
        obtain ⟨T, ok, hT⟩ : ∃ T ok, Pk.textB t = (T, ok) := ⟨_, _, rfl⟩
        have HT := Lib.hid hT
        clear hT hZ hZs
        have bel0 := bel0.alloc hbs (.cells (Pk.zeros m) 5)
        go_wp2_with fail
        refine (Pk.puttext_any t T ok HT.out hts _).mono ?_
        rintro e x1 ⟨rfl, hb⟩
        have bel1 : Below w.heap.size w x1 := (bel0.trans (hb.mono bel0.size))
        clear hb bel0
        go_wp2_with fail
        refine (Pk.refputtext_any t T ok HT.out hts _).mono ?_
        rintro e x2 ⟨rfl, hb⟩
        have bel2 : Below w.heap.size w x2 := (bel1.trans (hb.mono bel1.size))
        clear hb bel1
        go_wp2_with fail
        refine (Pk.put_any n2 a3 hn2 _).mono ?_
        rintro e x3 ⟨rfl, hb⟩
        have bel3 : Below w.heap.size w x3 := (bel2.trans (hb.mono bel2.size))
        clear hb bel2
        go_wp2_with fail
        refine (Pk.ref_put_any n2 a3 hn2 _).mono ?_
        rintro e x4 ⟨rfl, hb⟩
        have bel4 : Below w.heap.size w x4 := (bel3.trans (hb.mono bel3.size))
        clear hb bel3
        go_wp2_with fail
        refine (Pk.put_any n2 (a3.tmod 10) hn2 _).mono ?_
        rintro e x5 ⟨rfl, hb⟩
        have bel5 : Below w.heap.size w x5 := (bel4.trans (hb.mono bel4.size))
        clear hb bel4
        go_wp2_with fail
        refine (Pk.ref_put_any n2 (a3.tmod 10) hn2 _).mono ?_
        rintro e x6 ⟨rfl, hb⟩
        have bel6 : Below w.heap.size w x6 := (bel5.trans (hb.mono bel5.size))
        clear hb bel5
        go_wp2_with fail
        refine (Pk.putflag_any _ _).mono ?_
        rintro e x7 ⟨rfl, hb⟩
        have bel7 : Below w.heap.size w x7 := (bel6.trans (hb.mono bel6.size))
        clear hb bel6
        go_wp2_with fail
        refine (Pk.refputflag_any _ _).mono ?_
        rintro e w2 ⟨rfl, rfl⟩
        go_wp2
        go_ret
        exact ⟨rfl, bel7⟩
      · have h5' : ((n5 : Int) % 5 == 0) = false := by rw [beq_eq_false_iff_ne]; omega
        have hts : a4.size ≤ 281474976702464 := by omega
        obtain ⟨T, ok, hT⟩ : ∃ T ok, Pk.textB a4 = (T, ok) := ⟨_, _, rfl⟩
        have HT := Lib.hid hT
        clear hT h5
        go_wp2_with fail
        refine (Pk.puttext_any a4 T ok HT.out hts _).mono ?_
        rintro e x1 ⟨rfl, hb⟩
        have bel1 : Below w.heap.size w x1 := (bel0.trans (hb.mono bel0.size))
        clear hb bel0
        go_wp2_with fail
        refine (Pk.refputtext_any a4 T ok HT.out hts _).mono ?_
        rintro e x2 ⟨rfl, hb⟩
        have bel2 : Below w.heap.size w x2 := (bel1.trans (hb.mono bel1.size))
        clear hb bel1
        go_wp2_with fail
        refine (Pk.put_any n2 a3 hn2 _).mono ?_
        rintro e x3 ⟨rfl, hb⟩
        have bel3 : Below w.heap.size w x3 := (bel2.trans (hb.mono bel2.size))
        clear hb bel2
        go_wp2_with fail
        refine (Pk.ref_put_any n2 a3 hn2 _).mono ?_
        rintro e x4 ⟨rfl, hb⟩
        have bel4 : Below w.heap.size w x4 := (bel3.trans (hb.mono bel3.size))
        clear hb bel3
        go_wp2_with fail
        refine (Pk.put_any n2 (a3.tmod 10) hn2 _).mono ?_
        rintro e x5 ⟨rfl, hb⟩
        have bel5 : Below w.heap.size w x5 := (bel4.trans (hb.mono bel4.size))
        clear hb bel4
        go_wp2_with fail
        refine (Pk.ref_put_any n2 (a3.tmod 10) hn2 _).mono ?_
        rintro e x6 ⟨rfl, hb⟩
        have bel6 : Below w.heap.size w x6 := (bel5.trans (hb.mono bel5.size))
        clear hb bel5
        go_wp2_with fail
        refine (Pk.putflag_any _ _).mono ?_
        rintro e x7 ⟨rfl, hb⟩
        have bel7 : Below w.heap.size w x7 := (bel6.trans (hb.mono bel6.size))
        clear hb bel6
        go_wp2_with fail
        refine (Pk.refputflag_any _ _).mono ?_
        rintro e w2 ⟨rfl, rfl⟩
        go_wp2
        go_ret
        exact ⟨rfl, bel7⟩

set_option maxRecDepth 100000 in
theorem lifted (os : Os) (started : os.Started) (H : Type) (enc : TypeId × Value → H) :
    ReturnsInHanded {} Try.checked os 3 .any (Rows.packPlaysSpec.pre6 enc Try.prog Try.f3 Rows.packPlaysRow.domain false) (Rows.packPlaysSpec.post enc Try.prog Try.f3 false true false false) := by
  refine returnsInHanded_of_change_sized (C := Try.checked) own started (by kernel_rfl) Try.func3
    (ChangeSpec.witness6 (enc := enc) (C := Try.checked) false ⟨#[], #[.agg #[.string ByteArray.empty, .bool false], .slice none 0 0, .int .u64 0, .int .i64 0, .string ByteArray.empty, .int .u32 0], []⟩ 8 (by kernel_rfl) (by kernel_rfl) (by kernel_rfl) (by kernel_rfl)) ?_
  intro W base args ds gs before hval0 hW hcnd hsz0 _
  have hval : ∀ (j : Nat) t v, Try.f3.params[j]? = some t → args[j]? = some v → Value.okWide Try.prog W .any base t v := hval0
  have hsz : (DataW.weightsEach Try.prog (Try.f3.params.toList ++ Rows.packPlaysSpec.plain.varTypes Try.prog) (ds ++ gs)).all (· ≤ reachBytes) = true := hsz0
  have hW' := hW
  obtain ⟨p, q, hA0, hV, rfl, hfz, hnd⟩ := hW
  have hA : DataW.TrodAll enc Try.prog W 0 (fun _ => true) true Try.f3.params.toList args.toList ds p := hA0
  rw [Try.params3] at hA hval hsz
  obtain ⟨v0, vs0, d0, ds0, p0, q0, hargs, rfl, rfl, h0, r0⟩ := trodAll_cons hA
  obtain ⟨v1, vs1, d1, ds1, p1, q1, rfl, rfl, rfl, h1, r1⟩ := trodAll_cons r0
  obtain ⟨v2, vs2, d2, ds2, p2, q2, rfl, rfl, rfl, h2, r2⟩ := trodAll_cons r1
  obtain ⟨v3, vs3, d3, ds3, p3, q3, rfl, rfl, rfl, h3, r3⟩ := trodAll_cons r2
  obtain ⟨v4, vs4, d4, ds4, p4, q4, rfl, rfl, rfl, h4, r4⟩ := trodAll_cons r3
  obtain ⟨v5, vs5, d5, ds5, p5, q5, rfl, rfl, rfl, h5, r5⟩ := trodAll_cons r4
  obtain ⟨rfl, rfl, rfl⟩ := trodAll_nil r5
  obtain rfl : args = #[v0, v1, v2, v3, v4, v5] := by cases args; simp_all
  obtain ⟨rfl, rfl⟩ := trodVars_none hV
  have k0 := h0
  have lt0 : ∀ x ∈ p0, x.block < W.heap.size := by obtain ⟨m, hm⟩ := k0; exact DataW.trod_lt m _ _ _ hm
  have k1 := h1
  have lt1 : ∀ x ∈ p1, x.block < W.heap.size := by obtain ⟨m, hm⟩ := k1; exact DataW.trod_lt m _ _ _ hm
  obtain ⟨c0_0, c0_1, y0_0, y0_1, m0, rfl, rfl, hp0, g0_0, g0_1⟩ := open_agg2 Try.underlying23 (by kernel_rfl) (by kernel_rfl) (hval 0 23 v0 rfl rfl) h0
  obtain ⟨a0_0, e0_0, rfl, w0_0⟩ := DataW.trod_string Try.underlying9 g0_0
  obtain rfl : c0_0 = .string a0_0 := by simpa using e0_0
  obtain ⟨a0_1, e0_1, rfl⟩ := DataW.trod_bool Try.underlying4 g0_1
  obtain rfl : c0_1 = .bool a0_1 := by simpa using e0_1
  obtain ⟨a1, len1, cap1, rfl⟩ := okWide_slice Try.underlying24 (hval 1 24 v1 rfl rfl)
  obtain ⟨a2, rfl, rfl, rfl, w2⟩ := open_int Try.underlying25 (hval 2 25 v2 rfl rfl) h2
  obtain ⟨a3, rfl, rfl, rfl, w3⟩ := open_int Try.underlying3 (hval 3 3 v3 rfl rfl) h3
  obtain ⟨a4, rfl, rfl, rfl, w4⟩ := open_string Try.underlying9 (hval 4 9 v4 rfl rfl) h4
  obtain ⟨a5, rfl, rfl, rfl, w5⟩ := open_int Try.underlying26 (hval 5 26 v5 rfl rfl) h5
  clear hA0 hval0
  have z0_0 : a0_0.size ≤ 140737488351232 := by
    have := List.all_eq_true.1 hsz _ (DataW.weights_mem_each (j := 0) (t := 23) rfl rfl a0_0.data.toList.length (by simp [DataW.weights, Try.underlying23, DataW.weightsEach]))
    simpa [reachBytes] using of_decide_eq_true this
  have b1 : (∀ i, i < len1 → ∃ (x : Addr) (e0 : Int) (e1 : Int), a1 = some x ∧ x.block < W.heap.size ∧ W.cell? (x.add (i * 2)) = some (.int .u8 e0) ∧ W.cell? (x.add (i * 2 + 1)) = some (.int .i64 e1) ∧ (Lit.int .u8 e0).wf = true ∧ (Lit.int .i64 e1).wf = true) ∧ len1 ≤ cap1 ∧ cap1 ≤ maxLen ∧ cap1 * Try.prog.bytesOf 30 ≤ reachBytes := by
    obtain ⟨fuel, hf⟩ := h1
    rcases open_slice_pairs Try.underlying24 Try.underlying30 (by kernel_rfl) rfl rfl (by kernel_rfl) (by kernel_rfl) hf with ⟨hcs, _⟩ | ⟨x, l, c, m, k, V0, V1, D0, D1, P0, P1, hcs, _, hl, hm, hmm, hx, hel⟩
    · simp [Value.cells] at hcs
      obtain ⟨rfl, rfl, rfl⟩ := hcs
      exact ⟨fun i hi => absurd hi (by omega), Nat.le_refl _, Nat.zero_le _, by simp⟩
    · simp [Value.cells] at hcs
      obtain ⟨rfl, rfl, rfl⟩ := hcs
      have hmc : m = cap1 := by rw [hmm]; simp
      have hd : d1 = _ := (Prod.mk.inj hx).1
      subst hd
      have hz := sized_slice hsz (j := 1) (t := 24) rfl rfl Try.underlying24
      simp only [List.length_map, List.length_range] at hz
      refine ⟨fun i hi => ?_, hl, hm, by rw [show len1 + (m - len1) = cap1 by omega] at hz; exact hz⟩
      obtain ⟨c0, c1, t0, t1⟩ := hel i (by omega)
      obtain ⟨e0, q0, _, s0⟩ := DataW.trod_int Try.underlying5 t0
      have r0 : V0 i = .int .u8 e0 := by simpa using q0
      obtain ⟨e1, q1, _, s1⟩ := DataW.trod_int Try.underlying3 t1
      have r1 : V1 i = .int .i64 e1 := by simpa using q1
      rw [r0] at c0
      rw [r1] at c1
      have hb := World.block_lt_of_cell? _ _ c0
      rw [Pk.block_add] at hb
      exact ⟨x, e0, e1, rfl, hb, c0, c1, s0, s1⟩
  obtain ⟨w1, l1, m1, z1⟩ := b1
  have z1 := Nat.le_trans z1 (show reachBytes ≤ 140737488351232 by decide)
  have z4 : a4.size ≤ 140737488351232 := by
    have := sized_string hsz (j := 4) (t := 9) rfl rfl
    simp only [Array.length_toList, reachBytes] at this
    exact this
  refine (walk a0_0 a0_1 a1 len1 cap1 a2 a3 a4 a5 W z0_0 w1 l1 m1 z1 w2 w3 z4 w5).mono fun e W' ⟨he, bel⟩ => ?_
  subst he
  exact ⟨_, rfl, _, _, _, [], _, [], hW', trodAll_mk1 (shut_bool Try.underlying4 _), (trodAll_cons_mk (Below.trod laidOut (by kernel_rfl) (of_decide_eq_true (by kernel_rfl)) k0 bel lt0) (trodAll_cons_mk (Below.trod laidOut (by kernel_rfl) (of_decide_eq_true (by kernel_rfl)) k1 bel lt1) (trodAll_cons_mk (shut_int Try.underlying25 w2) (trodAll_cons_mk (shut_int Try.underlying3 w3) (trodAll_cons_mk (shut_string Try.underlying9 w4) (trodAll_cons_mk (shut_int Try.underlying26 w5) trodAll_mk0)))))), rfl, bel.frame _, fun h => by cases h⟩

theorem over : Rows.packPlaysRow.holds Try.pinned (OpenSpec.ofChange Rows.packPlaysSpec) :=
  OpenClaim.holds_of_wide 3 Try.f3 rfl rfl rfl rfl rfl rfl rfl ⟨rfl, rfl, rfl, rfl, rfl⟩ rfl rfl rfl rfl rfl (by kernel_rfl) Try.func3 (by kernel_rfl)
    (of_decide_eq_true (by kernel_rfl)) (by unfold Func.isWrapper; first | (rw [if_pos (by decide +kernel)]; kernel_rfl) | (rw [if_neg (by decide +kernel)]; exact ⟨rfl, rfl⟩))
    (fun os started H enc _ => lifted os started H enc)

theorem proved : Rows.PackPlaysSaid := over
end Go.Proofs.Ytmigofcicipejaa.packPlays
