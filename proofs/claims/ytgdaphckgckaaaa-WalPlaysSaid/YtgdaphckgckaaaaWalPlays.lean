/-
  Proved: for every number of 16 bits, every text and every list of deeds the law WalPlays returns true and leaves its inputs as they were. No condition beyond the form's own reach (each text and slice at most 2^47 - 4096 bytes).
-/
import Derived.Test.YtgdaphckgckaaaaWalX
import Derived.WalkKit
import Derived.ProofKit
import Derived.OpenShut
import Derived.ShutString
import Derived.SizedLaws
import Derived.ChangeOld
import Derived.Below
import Derived.Carry
import Derived.Lib.SmallJoins
import Derived.Deep.SlicePairs
import Derived.SliceStrings
import Derived.RegionTactic
import Derived.Deep.CutBlock
import Derived.Deep.DeepCutAuto
import Derived.Deep.RegionHeld3
import Derived.Laws.Small
import Derived.Lib.Strings
namespace Go.Proofs.Ytgdaphckgckaaaa.walPlays
open Go.ChangeShapes Go.WideShapes Go.ChangeAt Go.RowKit Go.Joins Go.Deep
open Go.ChangeMaps (open_string shut_string)
set_option linter.unusedVariables false

theorem own : ownKnob Try.prog.godebug = none := by kernel_rfl
theorem laidOut : laidOutB Try.prog = true := by kernel_rfl

theorem puts_disk {B a : Nat} {s : ByteArray} {sy ro : Nat} {h : Bool} {w : World} (D : Dk.DiskAt B a s.data.toList sy ro h w) (t : ByteArray) (ht : t.size ≤ 140737488351232) :
    Calls Try.prog 18 #[.pointer (some ⟨a, 0, none⟩), .string t] w fun e w' => ∃ c : Int, e = .returned (.int .i64 c) ∧ Dk.DiskAt B a (if s.size + t.size ≤ ro then s ++ t else s).data.toList sy ro h w' ∧ Dk.Far B w w' := by
  by_cases hf : s.size + t.size ≤ ro
  · rw [if_pos hf]
    refine (Dk.append_fits D t (by rw [Dk.data_length]; exact hf)).mono ?_
    rintro e w' ⟨rfl, h1, h2⟩
    exact ⟨0, rfl, h1.said (Dk.data_append s t).symm rfl, h2⟩
  · rw [if_neg hf]
    refine (Dk.append_full D t (by unfold maxLen; omega) (by rw [Dk.data_length]; omega)).mono ?_
    rintro e w' ⟨rfl, h1, h2⟩
    exact ⟨4, rfl, h1, h2⟩

theorem puts_ref {x : Nat} {s : ByteArray} {sy ro : Nat} {h : Bool} {w : World} (R : Dk.Ref w x s sy ro h) (hs : s.size ≤ 16777216) (hr : ro ≤ 16777216) (t : ByteArray) (ht : t.size ≤ 140737488351232) :
    Calls Try.prog 19 #[.pointer (some ⟨x, 0, none⟩), .string t] w fun e w' => ∃ c : Int, e = .returned (.int .i64 c) ∧ Dk.Ref w' x (if s.size + t.size ≤ ro then s ++ t else s) sy ro h ∧ w.grownBy w' (some x) := by
  by_cases hf : s.size + t.size ≤ ro
  · rw [if_pos hf]
    refine (Dk.ref_append_fits R hr t hf).mono ?_
    rintro e w' ⟨rfl, h1, h2⟩
    exact ⟨0, rfl, h1, h2⟩
  · rw [if_neg hf]
    refine (Dk.ref_append_full R hs t ht (by omega)).mono ?_
    rintro e w' ⟨rfl, h1, h2⟩
    exact ⟨4, rfl, h1, h2⟩

set_option maxRecDepth 100000 in
set_option maxHeartbeats 4000000 in
theorem walk (a0 : Int) (a1 : ByteArray) (a2 : Option Addr) (len2 cap2 : Nat) (w : World) (w0 : (Lit.int .u16 a0).wf = true) (z1 : a1.size ≤ 140737488351232) (w2 : ∀ i, i < len2 → ∃ (x : Addr) (e0 : Int) (e1 : ByteArray) (e2 : Int), a2 = some x ∧ x.block < w.heap.size ∧ w.cell? (x.add (i * 3)) = some (.int .u8 e0) ∧ w.cell? (x.add (i * 3 + 1)) = some (.string e1) ∧ w.cell? (x.add (i * 3 + 2)) = some (.int .u8 e2) ∧ (Lit.int .u8 e0).wf = true ∧ e1.size ≤ 140737488351232 ∧ (Lit.int .u8 e2).wf = true) (l2 : len2 ≤ cap2) (m2 : cap2 ≤ maxLen) :
    Calls Try.prog 4 #[.int .u16 a0, .string a1, .slice a2 len2 cap2] w fun e w' => e = .returned (.bool true) ∧ Below w.heap.size w w' := by
  have hb0 : 0 ≤ a0 ∧ a0 ≤ 65535 := by simpa [Lit.wf, IntKind.min, IntKind.max, IntKind.signed, IntKind.bits] using w0
  obtain ⟨n0, rfl⟩ := Int.eq_ofNat_of_zero_le hb0.1
  unfold maxLen at m2
  have hlen : len2 ≤ 9223372036854775807 := by omega
  have W2 := Lib.hid w2
  clear w2 w0 hb0
  obtain ⟨ro, hro⟩ : ∃ ro : Nat, n0 % 300 + 1 = ro := ⟨_, rfl⟩
  have r1 : 1 ≤ ro := by omega
  have r2 : ro ≤ 300 := by omega
  have HRO := Lib.hid (show (1 : Int) + (n0 : Int) % 300 = (ro : Int) by omega)
  clear hro
  go_enter Try.func4, Try.ntmps4
  go_wp2_with fail
  refine (Wl.examples_any _).mono ?_
  rintro e x1 ⟨rfl, b1⟩
  have hs := b1.size
  go_wp2_with fail
  rw [HRO.out]
  refine (Dk.new_yes ro r1 (by omega) _).mono ?_
  rintro e x2 ⟨rfl, hD, b⟩
  have b2 := Dk.behind b1 b
  obtain ⟨g, hg⟩ : ∃ g, x1.heap.size = g := ⟨_, rfl⟩
  rw [hg] at hD hs
  rw [hg]
  clear b b1 hg
  go_wp2_with fail
  rw [HRO.out]
  refine (Dk.ref_new_yes ro r1 (by omega) _).mono ?_
  rintro e x3 ⟨rfl, hR, b⟩
  have hD3 := hD.below b
  have b3 := Dk.behind b2 b
  have hx := b2.size
  generalize x2.heap.size = x at *
  clear hD b b2
  go_wp2_with fail
  refine (puts_disk (s := ⟨#[]⟩) hD3 a1 z1).mono ?_
  rintro e x4 ⟨c4, rfl, hD4, hF4⟩
  have hR4 := hR.far hF4
  have b4 := b3.trans (hF4.below.mono hs)
  clear hD3 hR b3 hF4
  go_wp2_with fail
  refine (puts_ref hR4 (Nat.zero_le _) (by omega) a1 z1).mono ?_
  rintro e x5 ⟨c5, rfl, hR5, hg5⟩
  have hD5 := hD4.kept hg5 (fun k hk => by obtain rfl := Option.some.inj hk; exact ⟨_, 56, _, hR4, by decide, by decide, by decide⟩)
  have b5 := b4.grown hg5 (Nat.le_trans hs hD4.heap) (fun k hk => by obtain rfl := Option.some.inj hk; exact hx)
  clear hD4 hR4 b4 hg5
  generalize (if (⟨#[]⟩ : ByteArray).size + a1.size ≤ ro then (⟨#[]⟩ : ByteArray) ++ a1 else ⟨#[]⟩) = s0 at *
  obtain ⟨rs0, hrs0⟩ : ∃ rs0, Wl.scan s0.data.toList = rs0 := ⟨_, rfl⟩
  have hs0 : s0.size ≤ 300 := by have := hD5.len_le; rw [Dk.data_length] at this; omega
  have hrl0 : rs0.length ≤ 300 := by
    have h1 := Wl.scan_le s0.data.toList
    have h2 := Wl.frames_length rs0
    rw [hrs0, Wl.len_data] at h1
    omega
  go_wp2_with fail
  refine (Wl.open_any hD5 rs0 hrs0).mono ?_
  rintro e x6 ⟨a, v, rfl, hD6, hL6, hF6⟩
  have hR6 := hR5.far hF6
  have b6 := b5.trans (hF6.below.mono hs)
  have hB5 := Nat.le_trans hs hD5.heap
  clear hR5 b5 hF6 hD5
  go_wp2_with fail
  refine (Wl.refopen_any hR6 (by omega) rs0 hrs0).mono ?_
  rintro e x7 ⟨y, u, s, rfl, hsd, hR7, hK7, hrow, hy, hg7⟩
  have T := Wl.opened hD6 hL6 hB5 hR6 b6 hs hx hR7 hK7 hrow hy hg7 hsd
  clear hD6 hL6 hR6 b6 hR7 hK7 hrow hy hg7 hsd hrs0
  go_wp2_with fail
  go_loopw [11, 12, 13] (fun ws ys i W => ∃ (k a y n sy : Nat) (v u : Value) (rs : List ByteArray) (s : ByteArray), k ≤ len2 ∧ k ≤ 40 ∧ ws = .pointer (some ⟨a, 0, none⟩) ∧ ys = .pointer (some ⟨y, 0, none⟩) ∧ i = .int .i64 k ∧ rs.length ≤ 300 + k ∧ Wl.Two w w.heap.size g x a y v u rs n s sy ro W) (fun _ _ i _ => len2 - (intOf i).toNat)
  case atStart => exact ⟨0, a, y, _, _, v, u, rs0, s, Nat.zero_le _, Nat.zero_le _, rfl, rfl, rfl, hrl0, T⟩
  case round =>
    clear T
    obtain ⟨k, a, y, n, sy, v, u, rs, s, hk, hk40, rfl, rfl, rfl, hrl, T⟩ := hrel
    by_cases hlt : k < len2 ∧ k < 40
    · obtain ⟨hlt, h40⟩ := hlt
      obtain ⟨xa, c0, t, m0, rfl, hxb, hc0, hc1, hc2, hwc, hts, hwm⟩ := W2.out k hlt
      have hc0' := (T.half.below.cell (p := xa.add (k * 3)) (by rw [Dk.block_add]; exact hxb)).trans hc0
      have hc1' := (T.half.below.cell (p := xa.add (k * 3 + 1)) (by rw [Dk.block_add]; exact hxb)).trans hc1
      have hc2' := (T.half.below.cell (p := xa.add (k * 3 + 2)) (by rw [Dk.block_add]; exact hxb)).trans hc2
      rw [Dk.add_at _ _ 1 (by decide)] at hc1'
      rw [Dk.add_at _ _ 2 (by decide)] at hc2'
      have hkk : (0 : Int) ≤ (k : Int) := by omega
      have hkl : (k : Int) < (len2 : Int) := by omega
      have h40' : (k : Int) < 40 := by omega
      have hc8 : 0 ≤ c0 ∧ c0 ≤ 255 := by simpa [Lit.wf, IntKind.min, IntKind.max, IntKind.signed, IntKind.bits] using hwc
      have hm8 : 0 ≤ m0 ∧ m0 ≤ 255 := by simpa [Lit.wf, IntKind.min, IntKind.max, IntKind.signed, IntKind.bits] using hwm
      obtain ⟨c, rfl⟩ := Int.eq_ofNat_of_zero_le hc8.1
      obtain ⟨m, rfl⟩ := Int.eq_ofNat_of_zero_le hm8.1
      have hc255 : c ≤ 255 := by omega
      have hm255 : m ≤ 255 := by omega
      have hba : Below wr.heap.size wr (wr.alloc (.cells #[.int .u8 (c : Int), .string t, .int .u8 (m : Int)] 47)) := (Below.refl _ _).alloc (Nat.le_refl _) _
      have T1 := T.below hba
      have hd1 : Wl.Deed (wr.alloc (.cells #[.int .u8 (c : Int), .string t, .int .u8 (m : Int)] 47)) wr.heap.size c t m := heap_alloc_new _ _
      obtain ⟨d0, d1, d2⟩ := hd1.cells
      clear hc0 hc1 hc2 hwc hc8 hwm hm8 T hba
      go_upto_block 2 with fail
      generalize wr.alloc (.cells #[.int .u8 (c : Int), .string t, .int .u8 (m : Int)] 47) = Wd at *
      generalize wr.heap.size = d at *
      go_cut [11, 12, 15, 73] (fun s11 s12 s15 _ wx => ∃ (a y n sy : Nat) (v u : Value) (rs : List ByteArray) (s : ByteArray), s11 = .pointer (some ⟨a, 0, none⟩) ∧ s12 = .pointer (some ⟨y, 0, none⟩) ∧ s15 = .bool true ∧ rs.length ≤ 300 + (k + 1) ∧ Wl.Two w w.heap.size g x a y v u rs n s sy ro wx)
      case first =>
        have hsz := T1.size_le
        have hsy := T1.sy_le
        have hrol := T1.disk.ro_le
        rcases (show c % 7 = 4 ∨ c % 7 = 5 ∨ c % 7 = 6 ∨ c % 7 < 4 by omega) with hr | hr | hr | hr
        · have hr' : (c : Int) % 7 = 4 := by omega
          clear hr
          go_wp2_with fail
          refine (Wl.sync_any T1.disk T1.log T1.bg).mono ?_
          rintro e w5 ⟨rfl, hD5, hL5, hF5⟩
          have H := T1.deed hF5 (fun _ e => .inl e)
          have hD6 := hD5.said (l' := s.data.toList) rfl (show _ = Dk.syncs false s.size sy by rw [Dk.data_length])
          go_wp2_with fail
          refine (Wl.refsync_any H.ref H.rlog rs H.row).mono ?_
          rintro e w6 ⟨rfl, hR6, hK6, hr6, hT6⟩
          have T2 := H.whole hD6 hL5 T1.bg hR6 hK6 hr6 (Nat.le_refl _) hT6 (fun _ e => .inl e) rfl
          clear hD5 hD6 hL5 hF5 H hR6 hK6 hr6 hT6 d0 d1 d2
          go_wp2_with fail
          all_goals (go_meet; exact ⟨_, _, _, _, _, _, _, _, rfl, rfl, rfl, by omega, T2⟩)
        · have hr' : (c : Int) % 7 = 5 := by omega
          clear hr
          go_wp2_with fail
          refine (Wl.sync_any T1.disk T1.log T1.bg).mono ?_
          rintro e w5 ⟨rfl, hD5, hL5, hF5⟩
          have H := T1.deed hF5 (fun _ e => .inl e)
          have hD6 := hD5.said (l' := s.data.toList) rfl (show _ = Dk.syncs false s.size sy by rw [Dk.data_length])
          go_wp2_with fail
          refine (Wl.refsync_any H.ref H.rlog rs H.row).mono ?_
          rintro e w6 ⟨rfl, hR6, hK6, hr6, hT6⟩
          have T2 := H.whole hD6 hL5 T1.bg hR6 hK6 hr6 (Nat.le_refl _) hT6 (fun _ e => .inl e) rfl
          clear hD5 hD6 hL5 hF5 H hR6 hK6 hr6 hT6 d0 d1 d2
          go_wp2_with fail
          all_goals (go_meet; exact ⟨_, _, _, _, _, _, _, _, rfl, rfl, rfl, by omega, T2⟩)
        · have hr' : (c : Int) % 7 = 6 := by omega
          clear hr
          go_wp2_with fail
          refine (Dk.crash_any T1.disk (m : Int)).mono ?_
          rintro e w5 ⟨rfl, hD5, hF5⟩
          rw [Dk.data_length] at hD5
          have hd5 := hd1.far hF5
          have H := T1.deed (.of_far hF5 T1.bg) (fun _ e => .inl e)
          obtain ⟨e0, e1, e2⟩ := hd5.cells
          clear hF5
          go_wp2_with fail
          refine (Dk.ref_crash H.ref hsz hsy (m : Int)).mono ?_
          rintro e w6 ⟨rfl, hR6, hg6⟩
          have hB5 := Nat.le_trans T1.bg hD5.heap
          have hD6 := hD5.kept hg6 (fun j hj => by obtain rfl := Option.some.inj hj; exact ⟨_, 56, _, H.ref, by decide, by decide, by decide⟩)
          have b6 := H.below.grown hg6 hB5 (fun j hj => by obtain rfl := Option.some.inj hj; exact H.bx)
          have hB6 := Nat.le_trans T1.bg hD6.heap
          have hex : s.data.toList.take (Dk.leaves s.size sy (m : Int)) = (s.extract 0 (Dk.leaves s.size sy (m : Int))).data.toList := by rw [Lib.extract_data]; simp
          rw [hex] at hD6
          have hbg := T1.bg
          have hbx := H.bx
          clear hD5 hg6 H hd5 e0 e1 e2 d0 d1 d2 hd1 hex T1
          generalize s.extract 0 (Dk.leaves s.size sy (m : Int)) = s6 at *
          generalize Dk.leaves s.size sy (m : Int) = sy6 at *
          obtain ⟨rs6, hrs6⟩ : ∃ rs6, Wl.scan s6.data.toList = rs6 := ⟨_, rfl⟩
          have hs6 : s6.size ≤ 300 := by have := hD6.len_le; rw [Dk.data_length] at this; omega
          have hrl6 : rs6.length ≤ 300 := by
            have h1 := Wl.scan_le s6.data.toList
            have h2 := Wl.frames_length rs6
            rw [hrs6, Wl.len_data] at h1
            omega
          have HR6 := Lib.hid hrs6
          clear hrs6
          go_wp2_with fail
          refine (Wl.open_any hD6 rs6 HR6.out).mono ?_
          rintro e w7 ⟨a7, v7, rfl, hD7, hL7, hF7⟩
          have hR7 := hR6.far hF7
          have b7 := b6.trans (hF7.below.mono hbg)
          clear hR6 b6 hF7 hD6
          go_wp2_with fail
          refine (Wl.refopen_any hR7 (by omega) rs6 HR6.out).mono ?_
          rintro e w8 ⟨y8, u8, s8, rfl, hsd8, hR8, hK8, hrow8, hy8, hg8⟩
          have T2 := Wl.opened hD7 hL7 hB6 hR7 b7 hbg hbx hR8 hK8 hrow8 hy8 hg8 hsd8
          clear hD7 hL7 hR7 b7 hR8 hK8 hrow8 hy8 hg8 hsd8
          go_wp2_with fail
          all_goals (go_meet; exact ⟨_, _, _, _, _, _, _, _, rfl, rfl, rfl, by omega, T2⟩)
        · obtain ⟨q, hq⟩ : ∃ q, c % 7 = q := ⟨_, rfl⟩
          have hr' : (c : Int) % 7 = (q : Int) := by omega
          have e4 : ((q : Int) == 4) = false := by rw [beq_eq_false_iff_ne]; omega
          have e5 : ((q : Int) == 5) = false := by rw [beq_eq_false_iff_ne]; omega
          have e6 : ((q : Int) == 6) = false := by rw [beq_eq_false_iff_ne]; omega
          clear hr hq d0 d1 d2
          have Td := T1.drew
          have hdd : Wl.Deed Wd.drew d c t m := hd1
          clear T1 hd1
          have hn : rs.length ≤ 1099511627776 := by omega
          have htm : t.size ≤ maxLen := by unfold maxLen; omega
          by_cases hmay : Wl.may t
          · have hM := Lib.hid hmay
            clear hmay
            rcases Nat.lt_or_ge ro (s.size + (t.size + 6)) with g1 | g1
            · go_wp2_with fail
              go_region_held3 (fun w' => w'.cell? ⟨d, 1, none⟩ = some (.string t)) (first | exact (Wl.Deed.cells (by assumption)).2.1) (first | (go_at_call 26; refine (Wl.putfull_any Td.disk Td.log t hM.out (by rw [Dk.data_length]; exact g1) Td.bg).mono ?_; rintro e w5 ⟨rfl, hD5, hL5, hF5⟩; have H := Td.deed hF5 (fun _ e => .inl e); have hd5 := hdd.farL Td.log hF5) | (go_at_call 27; refine (Wl.refput_full H.ref H.rlog hsz t hM.out g1).mono ?_; rintro e w6 ⟨rfl, hR6, hK6, hg6⟩; have hr6 := H.row.kept hg6 (.inr (Dk.own_ne H.row H.ref (by decide))); have T6 := H.whole hD5 hL5 Td.bg hR6 hK6 hr6 (Nat.le_refl _) (.of_x hg6) (fun _ e => .inl e) rfl; have hd6 := hd5.turned H.ref H.rlog (.of_x hg6)))
              go_wp2_with fail
              all_goals (go_meet; exact ⟨_, _, _, _, _, _, _, _, rfl, rfl, rfl, by omega, T6⟩)
            · go_wp2_with fail
              go_region_held3 (fun w' => w'.cell? ⟨d, 1, none⟩ = some (.string t)) (first | exact (Wl.Deed.cells (by assumption)).2.1) (first | (go_at_call 26; refine (Wl.putfits_any Td.disk Td.log t hM.out (by rw [Dk.data_length]; exact g1) hn Td.bg).mono ?_; rintro e w5 ⟨v5, rfl, hD5, hL5, hF5, hv5⟩; have H := Td.deed hF5 hv5; have hd5 := hdd.farL Td.log hF5) | (go_at_call 27; refine (Wl.refput_fits H.ref H.rlog hrol rs H.row hn t hM.out g1).mono ?_; rintro e w6 ⟨u6, s6, rfl, hs6, hR6, hK6, hr6, hT6⟩; have T6 := H.whole (rs' := rs ++ [t]) hD5 hL5 Td.bg hR6 hK6 (by rw [List.length_append]; exact hr6) (Nat.le_trans Td.bg hD5.heap) hT6 (fun j e => .inr (hr6.lt j e).1) hs6.symm; have hd6 := hd5.turned H.ref H.rlog hT6))
              go_wp2_with fail
              all_goals (go_meet; exact ⟨_, _, _, _, _, _, _, _, rfl, rfl, rfl, by rw [List.length_append, List.length_singleton]; omega, T6⟩)
          · have hM := Lib.hid hmay
            clear hmay
            go_wp2_with fail
            go_region_held3 (fun w' => w'.cell? ⟨d, 1, none⟩ = some (.string t)) (first | exact (Wl.Deed.cells (by assumption)).2.1) (first | (go_at_call 26; refine (Wl.putnone_any Td.disk Td.log t hM.out htm).mono ?_; rintro e w5 ⟨rfl, -, -, hb5⟩; have T5 := Td.below hb5; have hd5 := hdd.below hb5) | (go_at_call 27; refine (Wl.refput_none T5.half.ref T5.half.rlog t hM.out htm).mono ?_; rintro e w6 ⟨rfl, -, -, hb6⟩; have T6 := T5.below hb6; have hd6 := hd5.below hb6))
            go_wp2_with fail
            all_goals (go_meet; exact ⟨_, _, _, _, _, _, _, _, rfl, rfl, rfl, by omega, T6⟩)
      case rest =>
        clear T1 hd1 d0 d1 d2 hc0' hc1' hc2'
        obtain ⟨a, y, n, sy, v, u, rs, s, rfl, rfl, rfl, hrl, T⟩ := hcut
        obtain ⟨ao, cap, rfl⟩ := Dk.own_form T.half.row
        have hn : rs.length ≤ 1099511627776 := by omega
        have Td := T.drew
        clear T
        go_wp2_with fail
        go_region_held3 (fun w' => w'.cell? ⟨y, 1, none⟩ = some (.slice ao rs.length cap)) (first | exact (Wl.Two.half (by assumption)).rlog.cells.2.1) (first | (go_at_call 28; refine (Wl.records_any Td.log hn).mono ?_; rintro e w7 ⟨u7, rfl, hown, hb7⟩; have T7 := Td.below hb7) | (go_at_call 15; refine (Wl.same_any hown T7.half.row hn).mono ?_; rintro e w8 ⟨rfl, hb8⟩; have T8 := T7.below hb8))
        clear Td
        go_wp2_with fail
        have Te := T8.drew
        clear T8 T7 hown hb7 hb8
        go_region_held3 (fun w' => w'.cell? ⟨y, 2, none⟩ = some (.int .i64 n) ∧ w'.cell? ⟨x, 0, none⟩ = some (.string s)) (first | exact Wl.Two.pair (by assumption)) (first | (go_at_call 29; refine (Wl.synced_any Te.log).mono ?_; rintro e w9 ⟨rfl, rfl⟩) | (go_at_call 30; refine (Dk.bytes_str Te.disk s rfl).mono ?_; rintro e w10 ⟨rfl, -, hb10⟩; have T10 := Te.below hb10))
        go_wp2
        refine ⟨⟨k + 1, a, y, n, sy, v, .slice ao rs.length cap, rs, s, by omega, by omega, rfl, rfl, by go_num, hrl, T10⟩, by simp [intOf]; omega⟩
    · have hz : k < len2 ∧ ¬ k < 40 ∨ ¬ k < len2 := by omega
      have b2 := T.half.below
      clear hlt T
      rcases hz with ⟨hz1, hz2⟩ | hz1
      all_goals
        go_wp2
        go_ret
        exact ⟨rfl, b2⟩

set_option maxRecDepth 100000 in
theorem lifted (os : Os) (started : os.Started) (H : Type) (enc : TypeId × Value → H) :
    ReturnsInHanded {} Try.checked os 4 .any (Rows.walPlaysSpec.pre6 enc Try.prog Try.f4 Rows.walPlaysRow.domain false) (Rows.walPlaysSpec.post enc Try.prog Try.f4 false true false false) := by
  refine returnsInHanded_of_change_sized (C := Try.checked) own started (by kernel_rfl) Try.func4
    (ChangeSpec.witness6 (enc := enc) (C := Try.checked) false ⟨#[], #[.int .u16 0, .string ByteArray.empty, .slice none 0 0], []⟩ 8 (by kernel_rfl) (by kernel_rfl) (by kernel_rfl) (by kernel_rfl)) ?_
  intro W base args ds gs before hval0 hW hcnd hsz0 _
  have hval : ∀ (j : Nat) t v, Try.f4.params[j]? = some t → args[j]? = some v → Value.okWide Try.prog W .any base t v := hval0
  have hsz : (DataW.weightsEach Try.prog (Try.f4.params.toList ++ Rows.walPlaysSpec.plain.varTypes Try.prog) (ds ++ gs)).all (· ≤ reachBytes) = true := hsz0
  have hW' := hW
  obtain ⟨p, q, hA0, hV, rfl, hfz, hnd⟩ := hW
  have hA : DataW.TrodAll enc Try.prog W 0 (fun _ => true) true Try.f4.params.toList args.toList ds p := hA0
  rw [Try.params4] at hA hval hsz
  obtain ⟨v0, vs0, d0, ds0, p0, q0, hargs, rfl, rfl, h0, r0⟩ := trodAll_cons hA
  obtain ⟨v1, vs1, d1, ds1, p1, q1, rfl, rfl, rfl, h1, r1⟩ := trodAll_cons r0
  obtain ⟨v2, vs2, d2, ds2, p2, q2, rfl, rfl, rfl, h2, r2⟩ := trodAll_cons r1
  obtain ⟨rfl, rfl, rfl⟩ := trodAll_nil r2
  obtain rfl : args = #[v0, v1, v2] := by cases args; simp_all
  obtain ⟨rfl, rfl⟩ := trodVars_none hV
  have k2 := h2
  have lt2 : ∀ x ∈ p2, x.block < W.heap.size := by obtain ⟨m, hm⟩ := k2; exact DataW.trod_lt m _ _ _ hm
  obtain ⟨a0, rfl, rfl, rfl, w0⟩ := open_int Try.underlying32 (hval 0 32 v0 rfl rfl) h0
  obtain ⟨a1, rfl, rfl, rfl, w1⟩ := open_string Try.underlying9 (hval 1 9 v1 rfl rfl) h1
  obtain ⟨a2, len2, cap2, rfl⟩ := okWide_slice Try.underlying33 (hval 2 33 v2 rfl rfl)
  clear hA0 hval0
  have z1 : a1.size ≤ 140737488351232 := by
    have := sized_string hsz (j := 1) (t := 9) rfl rfl
    simp only [Array.length_toList, reachBytes] at this
    exact this
  have b2 : (∀ i, i < len2 → ∃ (x : Addr) (e0 : Int) (e1 : ByteArray) (e2 : Int), a2 = some x ∧ x.block < W.heap.size ∧ W.cell? (x.add (i * 3)) = some (.int .u8 e0) ∧ W.cell? (x.add (i * 3 + 1)) = some (.string e1) ∧ W.cell? (x.add (i * 3 + 2)) = some (.int .u8 e2) ∧ (Lit.int .u8 e0).wf = true ∧ e1.size ≤ 140737488351232 ∧ (Lit.int .u8 e2).wf = true) ∧ len2 ≤ cap2 ∧ cap2 ≤ maxLen := by
    obtain ⟨fuel, hf⟩ := h2
    rw [show (Value.slice a2 len2 cap2).cells.toList = [Value.slice a2 len2 cap2] from rfl] at hf
    obtain ⟨hl, hm, hel⟩ := Dk.open_triples Try.underlying33 Try.underlying47 (by kernel_rfl) rfl rfl rfl (by kernel_rfl) (by kernel_rfl) (by kernel_rfl) hf
    refine ⟨fun i hi => ?_, hl, hm⟩
    obtain ⟨x, V0, V1, V2, n, D0, D1, D2, elems, rest, hx, c0, c1, c2, t0, t1, t2, hx1, hel1⟩ := hel i hi
    obtain ⟨e0, q0, y0, s0⟩ := DataW.trod_int Try.underlying5 t0
    subst y0
    obtain rfl : V0 = .int .u8 e0 := by simpa using q0
    obtain ⟨e1, q1, y1, s1⟩ := DataW.trod_string Try.underlying9 t1
    subst y1
    obtain rfl : V1 = .string e1 := by simpa using q1
    obtain ⟨e2, q2, y2, s2⟩ := DataW.trod_int Try.underlying5 t2
    subst y2
    obtain rfl : V2 = .int .u8 e2 := by simpa using q2
    have g1 : e1.size ≤ 140737488351232 := by
      have := Dk.sized_nested hsz (j := 2) (t := 33) (m := 1) rfl (congrArg some hx1) Try.underlying33 hel1 Try.underlying47 rfl rfl
      simpa [reachBytes] using this
    have hb := World.block_lt_of_cell? _ _ c0
    rw [Dk.block_add] at hb
    exact ⟨x, e0, e1, e2, hx, hb, c0, c1, c2, s0, g1, s2⟩
  obtain ⟨w2, l2, m2⟩ := b2
  refine (walk a0 a1 a2 len2 cap2 W w0 z1 w2 l2 m2).mono fun e W' ⟨he, bel⟩ => ?_
  subst he
  exact ⟨_, rfl, _, _, _, [], _, [], hW', trodAll_mk1 (shut_bool Try.underlying4 _), (trodAll_cons_mk (shut_int Try.underlying32 w0) (trodAll_cons_mk (shut_string Try.underlying9 w1) (trodAll_cons_mk (Below.trod laidOut (by kernel_rfl) (of_decide_eq_true (by kernel_rfl)) k2 bel lt2) trodAll_mk0))), rfl, bel.frame _, fun h => by cases h⟩

theorem over : Rows.walPlaysRow.holds Try.pinned (OpenSpec.ofChange Rows.walPlaysSpec) :=
  OpenClaim.holds_of_wide 4 Try.f4 rfl rfl rfl rfl rfl rfl rfl ⟨rfl, rfl, rfl, rfl, rfl⟩ rfl rfl rfl rfl rfl (by kernel_rfl) Try.func4 (by kernel_rfl)
    (of_decide_eq_true (by kernel_rfl)) (by unfold Func.isWrapper; first | (rw [if_pos (by decide +kernel)]; kernel_rfl) | (rw [if_neg (by decide +kernel)]; exact ⟨rfl, rfl⟩))
    (fun os started H enc _ => lifted os started H enc)

theorem proved : Rows.WalPlaysSaid := over
end Go.Proofs.Ytgdaphckgckaaaa.walPlays
