/-
  Contracts: Frame of package wal, and the document's own; HasPrefix. Conditions: a text's length.
-/
import Derived.Test.YtgdaphckgckaaaaWalM
import Derived.Test.YtgdaphckgckaaaaCrcE2
import Derived.Test.YtgdaphckgckaaaaPackG
namespace Go.Proofs.Ytgdaphckgckaaaa.Wl
open Go.RowKit
set_option maxRecDepth 100000

theorem nonempty_of (t : ByteArray) (h : 0 < t.size) : t.toList.isEmpty = false := by
  rw [ByteArray.toList_eq, Bool.eq_false_iff, ne_eq, List.isEmpty_iff_length_eq_zero, ← Lib.size_eq]; omega

theorem frame_any (r x : ByteArray) (ok : Bool) (h : frame r = (x, ok)) (hs : r.size ≤ maxLen) (w : World) :
    Calls Try.prog 10 #[.string r] w fun e w' => e = .returned (.tuple #[.string x, .bool ok]) ∧ Below w.heap.size w w' := by
  by_cases hm : may r
  · rw [frame_yes r hm] at h
    obtain ⟨h1, rfl⟩ : frm r = x ∧ true = ok := by simpa using h
    have he := nonempty_of r hm.1
    have h3 : ¬ (8192 : Int) < (r.size : Int) := by have := hm.2; omega
    have ht : Pk.textB r = (hd r, true) := by unfold Pk.textB; rw [if_pos (by have := hm.2; omega)]; rfl
    have hz : (hd r).size ≤ 8194 := by rw [hd_size]; have := hm.2; omega
    have hz2 := frm_size r
    have hr : r.size ≤ 8192 := hm.2
    unfold frm at h1 hz2
    obtain ⟨y, hy⟩ : ∃ y, hd r = y := ⟨_, rfl⟩
    rw [hy] at h1 ht hz hz2
    have hc := Crc.add_lt 0 y.data.toList
    obtain ⟨c, hcc⟩ : ∃ c, Crc.add 0 y.data.toList = c := ⟨_, rfl⟩
    rw [hcc] at h1 hc hz2
    have HC := Lib.hid hcc
    have H1 := Lib.hid h1
    have HT := Lib.hid ht
    have hz3 : y.size + (Pk.numB c 4).size ≤ 9223372036854775807 := by rw [← Pk.cat_size, hz2]; omega
    clear h h1 ht hcc hm hz2
    generalize hq : Pk.numB c 4 = q at *
    have HQ := Lib.hid hq
    clear hq
    go_enter Try.func10, Try.ntmps10
    go_wp2
    go_step3
    go_wp2_with fail
    refine (Pk.puttext_any r y true HT.out (by omega) _).mono ?_
    rintro e w1 ⟨rfl, hb⟩
    go_wp2_with fail
    refine (Crc.sum_any y (by unfold maxLen; omega) _).mono ?_
    rintro e w2 ⟨rfl, rfl⟩
    rw [HC.out]
    go_wp2_with fail
    refine (Pk.put_any c 4 (by omega) _).mono ?_
    rintro e w3 ⟨rfl, hb3⟩
    rw [HQ.out]
    go_wp2
    rw [H1.out]
    rw [Exit.noGoto_ret]
    go_ret2
    exact ⟨rfl, hb.trans (hb3.mono hb.size)⟩
  · rw [frame_no r hm] at h
    obtain ⟨rfl, rfl⟩ : (⟨#[]⟩ : ByteArray) = x ∧ false = ok := by simpa using h
    unfold maxLen at hs
    rcases (show r.size = 0 ∨ (0 < r.size ∧ (8192 : Int) < (r.size : Int)) by unfold may at hm; omega) with h0 | ⟨h0, h1⟩
    · obtain rfl : r = ⟨#[]⟩ := ByteArray.ext (Array.eq_empty_of_size_eq_zero h0)
      go_enter Try.func10, Try.ntmps10
      go_wp2
      refine Pk.scope_ahead 0 rfl ?_
      go_wp2
      go_step3
      refine ⟨rfl, ?_⟩
      go_wp2
      rw [Exit.noGoto_ret]
      go_ret2
      exact ⟨rfl, Below.refl _ _⟩
    · have he := nonempty_of r h0
      go_enter Try.func10, Try.ntmps10
      go_wp2
      refine Pk.scope_ahead 0 rfl ?_
      go_wp2
      go_step3
      refine ⟨rfl, ?_⟩
      go_wp2
      rw [Exit.noGoto_ret]
      go_ret2
      exact ⟨rfl, Below.refl _ _⟩

theorem prefix_size {p s : ByteArray} (h : p.data.toList <+: s.data.toList) : p.size ≤ s.size ∧ s.extract 0 p.size = p := by
  obtain ⟨t, ht⟩ := h
  have h1 := congrArg List.length ht
  rw [List.length_append, len_data, len_data] at h1
  refine ⟨by omega, ?_⟩
  apply ByteArray.ext
  apply Array.ext'
  rw [Lib.extract_data, ← ht]
  simp only [List.drop_zero, Nat.sub_zero]
  rw [List.take_left' (by rw [len_data])]

theorem prefix_of {p s : ByteArray} (h : s.extract 0 p.size = p) : p.data.toList <+: s.data.toList := by
  have e := congrArg (fun x : ByteArray => x.data.toList) h
  simp only [Lib.extract_data, List.drop_zero, Nat.sub_zero] at e
  exact ⟨s.data.toList.drop p.size, by conv => lhs; arg 1; rw [← e]
                                       exact List.take_append_drop _ _⟩

theorem prefix_in (s p : ByteArray) (b : Bool) (h : decide (p.data.toList <+: s.data.toList) = b) (_hs : s.size ≤ maxLen) (hp : p.size ≤ maxLen) (w : World) :
    Calls Try.prog 63 #[.string s, .string p] w fun e w' => e = .returned (.bool b) ∧ w = w' := by
  unfold maxLen at _hs hp
  by_cases hl : p.size ≤ s.size
  · have h1 : (p.size : Int) ≤ (s.size : Int) := by omega
    have h2 : (0 : Int) ≤ (p.size : Int) := by omega
    obtain ⟨u, hu⟩ : ∃ u, s.extract 0 p.size = u := ⟨_, rfl⟩
    have hb : (u.toList == p.toList) = b := by
      rw [← h, Bool.eq_iff_iff, beq_iff_eq, decide_eq_true_iff]
      constructor
      · intro e
        rw [ByteArray.toList_eq, ByteArray.toList_eq] at e
        exact prefix_of (hu.trans (ByteArray.ext (Array.ext' e)))
      · intro e
        rw [← hu, (prefix_size e).2]
    clear h
    go_enter Try.func63, Try.ntmps63
    go_wp2
    go_ret
    exact ⟨rfl, rfl⟩
  · have h1 : ¬ (p.size : Int) ≤ (s.size : Int) := by omega
    have hb : b = false := by
      rw [← h, decide_eq_false_iff_not]
      exact fun e => hl (prefix_size e).1
    subst hb
    clear h
    go_enter Try.func63, Try.ntmps63
    go_wp2
    go_ret
    exact ⟨rfl, rfl⟩

theorem prefix_any (s p : ByteArray) (b : Bool) (h : decide (p.data.toList <+: s.data.toList) = b) (_hs : s.size ≤ maxLen) (hp : p.size ≤ maxLen) (w : World) :
    Calls Try.prog 54 #[.string s, .string p] w fun e w' => e = .returned (.bool b) ∧ w = w' := by
  go_enter Try.func54, Try.ntmps54
  go_wp2_with fail
  refine (prefix_in s p b h _hs hp _).mono ?_
  rintro e w1 ⟨rfl, rfl⟩
  go_wp2
  go_ret
  exact ⟨rfl, rfl⟩
theorem refframe_any (r x : ByteArray) (ok : Bool) (h : frame r = (x, ok)) (hs : r.size ≤ maxLen) (w : World) :
    Calls Try.prog 11 #[.string r] w fun e w' => e = .returned (.tuple #[.string x, .bool ok]) ∧ Below w.heap.size w w' := by
  by_cases hm : may r
  · rw [frame_yes r hm] at h
    obtain ⟨h1, rfl⟩ : frm r = x ∧ true = ok := by simpa using h
    have he := nonempty_of r hm.1
    have h3 : ¬ (8192 : Int) < (r.size : Int) := by have := hm.2; omega
    have ht : Pk.textB r = (hd r, true) := by unfold Pk.textB; rw [if_pos (by have := hm.2; omega)]; rfl
    have hz : (hd r).size ≤ 8194 := by rw [hd_size]; have := hm.2; omega
    have hz2 := frm_size r
    have hr : r.size ≤ 8192 := hm.2
    unfold frm at h1 hz2
    obtain ⟨y, hy⟩ : ∃ y, hd r = y := ⟨_, rfl⟩
    rw [hy] at h1 ht hz hz2
    have hc := Crc.add_lt 0 y.data.toList
    obtain ⟨c, hcc⟩ : ∃ c, Crc.add 0 y.data.toList = c := ⟨_, rfl⟩
    rw [hcc] at h1 hc hz2
    have HC := Lib.hid hcc
    have H1 := Lib.hid h1
    have HT := Lib.hid ht
    have hz3 : y.size + (Pk.numB c 4).size ≤ 9223372036854775807 := by rw [← Pk.cat_size, hz2]; omega
    clear h h1 ht hcc hm hz2
    generalize hq : Pk.numB c 4 = q at *
    have HQ := Lib.hid hq
    clear hq
    go_enter Try.func11, Try.ntmps11
    go_wp2_with fail
    refine (Pk.refputtext_any r y true HT.out (by omega) _).mono ?_
    rintro e w1 ⟨rfl, hb⟩
    go_wp2_with fail
    refine (Crc.ref_sum_any y (by unfold maxLen; omega) _).mono ?_
    rintro e w2 ⟨rfl, rfl⟩
    rw [HC.out]
    go_wp2_with fail
    refine (Pk.ref_put_any c 4 (by omega) _).mono ?_
    rintro e w3 ⟨rfl, hb3⟩
    rw [HQ.out]
    go_wp2
    rw [H1.out]
    go_ret2
    exact ⟨rfl, hb.trans (hb3.mono hb.size)⟩
  · rw [frame_no r hm] at h
    obtain ⟨rfl, rfl⟩ : (⟨#[]⟩ : ByteArray) = x ∧ false = ok := by simpa using h
    unfold maxLen at hs
    rcases (show r.size = 0 ∨ (0 < r.size ∧ (8192 : Int) < (r.size : Int)) by unfold may at hm; omega) with h0 | ⟨h0, h1⟩
    · obtain rfl : r = ⟨#[]⟩ := ByteArray.ext (Array.eq_empty_of_size_eq_zero h0)
      go_enter Try.func11, Try.ntmps11
      go_wp2
      go_ret2
      exact ⟨rfl, Below.refl _ _⟩
    · have he := nonempty_of r h0
      go_enter Try.func11, Try.ntmps11
      go_wp2
      go_ret2
      exact ⟨rfl, Below.refl _ _⟩

/-- what first tells -/
def firstT (s : ByteArray) : ByteArray × ByteArray := match firstB s with | none => (⟨#[]⟩, ⟨#[]⟩) | some r => (r, frm r)

theorem rec_size (s : ByteArray) : (rec s).size ≤ 65535 := by
  unfold rec Pk.text
  have h1 := Pk.number_lt s false 2
  rcases Pk.next_ways (Pk.number s false 2).2.1 (Pk.number s false 2).2.2 ((Pk.number s false 2).1 : Int) with ⟨n, hb, hn, hle⟩ | hn
  · rw [hb, hn, Pk.next_yes _ n hle]
    have h2 : (Pk.number s false ((2 : Nat) : Int)).1 = (Pk.number s false 2).1 := rfl
    rw [h2] at h1
    rw [ByteArray.size_extract]
    omega
  · rw [Pk.next_no _ _ _ hn]
    exact Nat.zero_le _

theorem first_any (s r f : ByteArray) (h : firstT s = (r, f)) (hs : s.size ≤ 281474976710656) (w : World) :
    Calls Try.prog 37 #[.string s] w fun e w' => e = .returned (.tuple #[.string r, .string f]) ∧ Below w.heap.size w w' := by
  obtain ⟨x, y, z, hx⟩ : ∃ x y z, Pk.text s false = (x, y, z) := ⟨_, _, _, rfl⟩
  have hr : rec s = x := by unfold rec; rw [hx]
  have hxs : x.size ≤ 65535 := by rw [← hr]; exact rec_size s
  have HX := Lib.hid hx
  clear hx
  by_cases hm : may x
  · by_cases hp : frl x <+: s.data.toList
    · have hf : firstT s = (x, frm x) := by unfold firstT firstB; rw [hr, if_pos ⟨hm, hp⟩]
      rw [hf] at h
      obtain ⟨rfl, rfl⟩ : x = r ∧ frm x = f := by simpa using h
      have hfr := frame_yes x hm
      have hpp : decide ((frm x).data.toList <+: s.data.toList) = true := decide_eq_true hp
      have hsz := frm_size x
      clear h hf hp hm hr
      generalize frm x = f at *
      have HF := Lib.hid hfr
      have HP := Lib.hid hpp
      clear hfr hpp
      go_enter Try.func37, Try.ntmps37
      go_wp2
      go_step3
      go_wp2_with fail
      refine (Pk.text_any s false x y z HX.out hs _).mono ?_
      rintro e w1 ⟨rfl, hb⟩
      go_wp2_with fail
      refine (frame_any x f true HF.out (by unfold maxLen; omega) _).mono ?_
      rintro e w2 ⟨rfl, hb2⟩
      go_wp2_with fail
      refine (prefix_any s f true HP.out (by unfold maxLen; omega) (by unfold maxLen; omega) _).mono ?_
      rintro e w3 ⟨rfl, rfl⟩
      go_wp2
      rw [Exit.noGoto_ret]
      go_ret2
      exact ⟨rfl, hb.trans (hb2.mono hb.size)⟩
    · have hf : firstT s = (⟨#[]⟩, ⟨#[]⟩) := by unfold firstT firstB; rw [hr, if_neg (fun c => hp c.2)]
      rw [hf] at h
      obtain ⟨rfl, rfl⟩ : (⟨#[]⟩ : ByteArray) = r ∧ (⟨#[]⟩ : ByteArray) = f := by simpa using h
      have hfr := frame_yes x hm
      have hpp : decide ((frm x).data.toList <+: s.data.toList) = false := decide_eq_false hp
      have hsz := frm_size x
      clear h hf hp hm hr
      generalize frm x = f at *
      have HF := Lib.hid hfr
      have HP := Lib.hid hpp
      clear hfr hpp
      go_enter Try.func37, Try.ntmps37
      go_wp2
      refine Pk.scope_ahead 0 rfl ?_
      go_wp2_with fail
      refine (Pk.text_any s false x y z HX.out hs _).mono ?_
      rintro e w1 ⟨rfl, hb⟩
      go_wp2_with fail
      refine (frame_any x f true HF.out (by unfold maxLen; omega) _).mono ?_
      rintro e w2 ⟨rfl, hb2⟩
      go_wp2_with fail
      refine (prefix_any s f false HP.out (by unfold maxLen; omega) (by unfold maxLen; omega) _).mono ?_
      rintro e w3 ⟨rfl, rfl⟩
      go_wp2
      go_step3
      refine ⟨rfl, ?_⟩
      go_wp2
      rw [Exit.noGoto_ret]
      go_ret2
      exact ⟨rfl, hb.trans (hb2.mono hb.size)⟩
  · have hf : firstT s = (⟨#[]⟩, ⟨#[]⟩) := by unfold firstT firstB; rw [hr, if_neg (fun c => hm c.1)]
    rw [hf] at h
    obtain ⟨rfl, rfl⟩ : (⟨#[]⟩ : ByteArray) = r ∧ (⟨#[]⟩ : ByteArray) = f := by simpa using h
    have hfr := frame_no x hm
    clear h hf hm hr
    have HF := Lib.hid hfr
    clear hfr
    go_enter Try.func37, Try.ntmps37
    go_wp2
    refine Pk.scope_ahead 0 rfl ?_
    go_wp2_with fail
    refine (Pk.text_any s false x y z HX.out hs _).mono ?_
    rintro e w1 ⟨rfl, hb⟩
    go_wp2_with fail
    refine (frame_any x _ false HF.out (by unfold maxLen; omega) _).mono ?_
    rintro e w2 ⟨rfl, hb2⟩
    go_wp2
    go_step3
    refine ⟨rfl, ?_⟩
    go_wp2
    rw [Exit.noGoto_ret]
    go_ret2
    exact ⟨rfl, hb.trans (hb2.mono hb.size)⟩
end Go.Proofs.Ytgdaphckgckaaaa.Wl
