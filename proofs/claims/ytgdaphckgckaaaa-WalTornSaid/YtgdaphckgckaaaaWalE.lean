/-
  Contract of the statements' own examples: they are so, and memory that was there is as it was.
-/
import Derived.Test.YtgdaphckgckaaaaWalL
import Derived.Test.YtgdaphckgckaaaaDiskX
namespace Go.Proofs.Ytgdaphckgckaaaa.Wl
open Go.RowKit
set_option maxRecDepth 100000
open Dk (DiskAt Far)

theorem LogIn.mono {B C a d n : Nat} {v : Value} {rs : List ByteArray} {w : World} (L : LogIn C a d v rs n w) (h : B ≤ C) : LogIn B a d v rs n w :=
  ⟨Nat.le_trans h L.base, Nat.le_trans h L.heap, L.head, row_mono L.row h⟩

/-- what is too short begins with no frame -/
theorem first_short (l : List UInt8) (h : l.length < 7) : firstL l = none := by
  cases e : firstL l with
  | none => rfl
  | some r =>
    obtain ⟨hm, t, ht⟩ := firstL_some e
    have h1 := congrArg List.length ht
    rw [List.length_append, frl_length] at h1
    have := hm.1
    omega
theorem scan_short (r : ByteArray) (h : may r) (t : List UInt8) (ht : t.length < 7) : scan (frl r ++ t) = [r] := by
  rw [scan_cons r h, scan_none (first_short t ht)]

theorem may_ab : may ⟨#[97, 98]⟩ := by decide
theorem may_cd : may ⟨#[99, 100]⟩ := by decide
theorem no_nil : ¬ may ⟨#[]⟩ := by decide

set_option maxHeartbeats 2000000 in
set_option maxRecDepth 100000 in
theorem examples_any (w : World) : Calls Try.prog 9 #[] w fun e w' => e = .returned (.bool true) ∧ Below w.heap.size w w' := by
  obtain ⟨F, hF⟩ : ∃ F, frm ⟨#[97, 98]⟩ = F := ⟨_, rfl⟩
  have hFr : frame ⟨#[97, 98]⟩ = (F, true) := by rw [frame_yes _ may_ab, hF]
  have hFs : F.size = 8 := by rw [← hF, frm_size]; rfl
  have hFl : F.data.toList = frl ⟨#[97, 98]⟩ := by rw [← hF]; rfl
  obtain ⟨F3, hF3⟩ : ∃ F3, F.extract 0 3 = F3 := ⟨_, rfl⟩
  have hF3s : F3.size = 3 := by rw [← hF3, ByteArray.size_extract]; omega
  obtain ⟨FF, hFF⟩ : ∃ FF, F ++ F3 = FF := ⟨_, rfl⟩
  have hFFs : FF.size = 11 := by rw [← hFF, ByteArray.size_append]; omega
  have hsc : scan FF.data.toList = [⟨#[97, 98]⟩] := by rw [← hFF, Dk.data_append, hFl, scan_short _ may_ab _ (by rw [len_data]; omega)]
  obtain ⟨FX, hFX⟩ : ∃ FX, F ++ ⟨#[120]⟩ = FX := ⟨_, rfl⟩
  have hFXs : FX.size = 9 := by rw [← hFX, ByteArray.size_append, hFs]; rfl
  have hsx : scan FX.data.toList = [⟨#[97, 98]⟩] := by rw [← hFX, Dk.data_append, hFl, scan_short _ may_ab _ (by decide)]
  have hn1 : (frames [⟨#[97, 98]⟩]).length = 8 := by rw [frames_one, frl_length]; rfl
  have hn2 : (frames [⟨#[97, 98]⟩, ⟨#[99, 100]⟩]).length = 16 := by rw [frames, frames_one, List.length_append, frl_length, frl_length]; rfl
  have h2 : frames [⟨#[97, 98]⟩] ++ frl ⟨#[99, 100]⟩ = frames [⟨#[97, 98]⟩, ⟨#[99, 100]⟩] := by rw [frames_one, frames, frames_one]
  have s1 : F.size + F3.size ≤ 9223372036854775807 := by omega
  have s2 : F.size + (⟨#[120]⟩ : ByteArray).size ≤ 9223372036854775807 := by rw [hFs]; decide
  have HFr := Lib.hid hFr
  have HSC := Lib.hid hsc
  have HSX := Lib.hid hsx
  have HN1 := Lib.hid hn1
  have HN2 := Lib.hid hn2
  have H2 := Lib.hid h2
  have HXS := Lib.hid hFXs
  have hFFle : FF.size ≤ 1099511627776 := by omega
  clear hF hFr hsc hsx hn1 hn2 h2 hFl hFFs hF3s hFXs
  go_enter Try.func9, Try.ntmps9
  go_wp2_with fail
  refine (frame_any _ _ _ (frame_no _ no_nil) (by decide) _).mono ?_
  rintro e w1 ⟨rfl, hb⟩
  go_wp2_with fail
  refine (frame_any _ _ _ HFr.out (by decide) _).mono ?_
  rintro e w2 ⟨rfl, hb2⟩
  have b1 := Dk.behind hb hb2
  clear hb hb2
  go_wp2_with fail
  refine (scan_any FF _ HSC.out hFFle _).mono ?_
  rintro e w3 ⟨v3, rfl, hown3, hb3⟩
  rw [HN1.out]
  have b3 := Dk.behind b1 hb3
  clear b1 hb3
  go_wp2_with fail
  refine (Dk.new_yes 100 (by decide) (by decide) _).mono ?_
  rintro e w4 ⟨rfl, hD, hb⟩
  have b4 := Dk.behind b3 hb
  have hs := b3.size
  obtain ⟨ao, cap, rfl⟩ := Dk.own_form hown3
  clear b3 hb hown3
  generalize w3.heap.size = g at *
  go_wp2_with fail
  refine (Dk.append_fits hD FX (by rw [HXS.out]; decide)).mono ?_
  rintro e w5 ⟨rfl, hD5, hF5⟩
  rw [List.nil_append] at hD5
  have b5 := b4.trans (hF5.below.mono hs)
  have hs5 := hD5.heap
  clear hD b4 hF5
  go_wp2_with fail
  refine (open_any hD5 _ HSX.out).mono ?_
  rintro e w6 ⟨a, v, rfl, hD6, hL6, hF6⟩
  rw [HN1.out] at hD6
  have hL := hL6.mono hs5
  have b6 := b5.trans (hF6.below.mono hs)
  clear hD5 b5 hF6 hL6
  go_wp2_with fail
  refine (putfits_any hD6 hL ⟨#[99, 100]⟩ may_cd (by rw [HN1.out]; decide) (by decide) (Nat.le_refl _)).mono ?_
  rintro e w7 ⟨v', rfl, hD7, hL7, hF7, -⟩
  rw [H2.out] at hD7
  have b7 := b6.trans (hF7.below.mono hs)
  clear hD6 hL b6 hF7
  go_wp2_with fail
  refine (synced_any hL7).mono ?_
  rintro e w8 ⟨rfl, rfl⟩
  go_wp2_with fail
  refine (sync_any hD7 hL7 (Nat.le_refl _)).mono ?_
  rintro e w9 ⟨rfl, hD9, hL9, hF9⟩
  have b9 := b7.trans (hF9.below.mono hs)
  clear hD7 hL7 b7 hF9
  go_wp2_with fail
  refine (synced_any hL9).mono ?_
  rintro e w10 ⟨rfl, rfl⟩
  go_wp2_with fail
  refine (records_any hL9 (by simp)).mono ?_
  rintro e w11 ⟨u, rfl, hown, hb⟩
  obtain ⟨ao', cap', rfl⟩ := Dk.own_form hown
  have hD11 := hD9.below hb
  have hL11 := hL9.below hb
  have b11 := Dk.behind b9 hb
  clear hD9 hL9 b9 hb hown
  go_wp2_with fail
  obtain ⟨Y, hY⟩ : ∃ Y : ByteArray, Y.data.toList = frames [⟨#[97, 98]⟩, ⟨#[99, 100]⟩] := ⟨⟨(frames [⟨#[97, 98]⟩, ⟨#[99, 100]⟩]).toArray⟩, rfl⟩
  have hYs : Y.size = 16 := by rw [← len_data, hY, HN2.out]
  have HY := Lib.hid hY
  clear hY
  refine (Dk.bytes_str hD11 Y HY.out).mono ?_
  rintro e w12 ⟨rfl, hD12, hb⟩
  have hL12 := hL11.below hb
  have b12 := Dk.behind b11 hb
  clear hD11 hL11 b11 hb
  go_wp2_with fail
  refine (putnone_any hD12 hL12 ⟨#[]⟩ no_nil (by decide)).mono ?_
  rintro e w13 ⟨rfl, hD13, hL13, hb⟩
  have b13 := Dk.behind b12 hb
  go_wp2
  go_ret
  exact ⟨rfl, b13⟩
end Go.Proofs.Ytgdaphckgckaaaa.Wl
