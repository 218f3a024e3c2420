/-
  Contracts: Scan of package wal, and the document's own. Conditions: a text's length.
-/
import Derived.Test.YtgdaphckgckaaaaWalW
import Derived.Test.YtgdaphckgckaaaaDiskI
import Derived.Lib.BufferWrite
import Derived.Deep.AppendLies
namespace Go.Proofs.Ytgdaphckgckaaaa.Wl
open Go.RowKit
set_option maxRecDepth 100000

/-- records, as a row holds them -/
def strs (rs : List ByteArray) : List Value := rs.map Value.string
theorem strs_length (rs : List ByteArray) : (strs rs).length = rs.length := List.length_map ..
theorem strs_snoc (rs : List ByteArray) (r : ByteArray) : strs (rs ++ [r]) = strs rs ++ [.string r] := by simp [strs]

theorem firstT_none (s : ByteArray) (t : List UInt8) (h : s.data.toList = t) (hn : firstL t = none) : firstT s = (⟨#[]⟩, ⟨#[]⟩) := by
  unfold firstT; rw [← firstL_of s t h, hn]
theorem firstT_some (s : ByteArray) (t : List UInt8) (h : s.data.toList = t) (r : ByteArray) (hn : firstL t = some r) : firstT s = (r, frm r) := by
  unfold firstT; rw [← firstL_of s t h, hn]

theorem rest_of (s : ByteArray) (l t : List UInt8) (h : s.data.toList = l ++ t) : l.length ≤ s.size ∧ (s.extract l.length s.size).data.toList = t ∧ (s.extract l.length s.size).size = t.length ∧ s.size = l.length + t.length := by
  have h1 := congrArg List.length h
  rw [len_data, List.length_append] at h1
  have h2 : (s.extract l.length s.size).data.toList = t := by
    rw [Lib.extract_data, h, List.drop_left, h1, show l.length + t.length - l.length = t.length by omega, List.take_length]
  exact ⟨by omega, h2, by rw [← len_data, h2], h1⟩

set_option maxRecDepth 100000 in
theorem scan_any (s : ByteArray) (rs : List ByteArray) (h : scan s.data.toList = rs) (hs : s.size ≤ 1099511627776) (w : World) :
    Calls Try.prog 13 #[.string s] w fun e w' => ∃ v, e = .returned (.tuple #[v, .int .i64 ((frames rs).length : Nat)]) ∧ w'.ownsRow w.heap.size 9 1 v rs.length (strs rs) ∧ Below w.heap.size w w' := by
  obtain ⟨i0, hi, hz0, hz1, hz2⟩ := info_parts (P := Try.prog) (e := 9) (z := .string ⟨#[]⟩) (size := 1) (bytes := 16) (by kernel_rfl)
  have H := Lib.hid h
  clear h
  go_enter Try.func13, Try.ntmps13
  go_wp2
  refine Pk.scope_ahead 0 rfl ?_
  go_wp2_with fail
  go_loopw [2, 3] (fun r n W => ∃ (done : List ByteArray) (t : List UInt8), n = .int .i64 ((frames done).length : Nat) ∧ s.data.toList = frames done ++ t ∧ rs = done ++ scan t ∧ 6 * done.length ≤ (frames done).length ∧ W.ownsRow w.heap.size 9 1 r done.length (strs done) ∧ Below w.heap.size w W) (fun _ n _ => s.size - (intOf n).toNat)
  case atStart => exact ⟨[], _, rfl, rfl, H.out.symm, Nat.zero_le _, World.ownsRow_nil _ _ _ _, Below.refl _ _⟩
  case round =>
    obtain ⟨done, t, rfl, hst, hrs, h6, hown, hb⟩ := hrel
    obtain ⟨q1, q2, q3, q4⟩ := rest_of s _ t hst
    generalize hm : (frames done).length = m at *
    obtain ⟨y, hy⟩ : ∃ y, s.extract m s.size = y := ⟨_, rfl⟩
    rw [hy] at q2 q3
    have m0 : (0 : Int) ≤ (m : Int) := by omega
    have m1 : (m : Int) ≤ (s.size : Int) := by omega
    have HQ := Lib.hid q4
    have HY := Lib.hid q3
    have HL := Lib.hid q2
    have hys : y.size ≤ 1099511627776 := by omega
    have HM := Lib.hid hm
    have HS := Lib.hid hst
    have HR := Lib.hid hrs
    clear hm hst hrs q4 q3 q2
    cases ef : firstL t with
    | none =>
      have hT := firstT_none y t HL.out ef
      have HT := Lib.hid hT
      have HE := Lib.hid ef
      clear hT ef
      go_wp2_with fail
      refine (first_any y _ _ HT.out (by omega) _).mono ?_
      rintro e w1 ⟨rfl, hb1⟩
      go_wp2
      go_step3
      refine ⟨rfl, ?_⟩
      go_wp2
      rw [Exit.noGoto_ret]
      go_ret2
      have hrs : rs = done := by rw [HR.out, scan_none HE.out, List.append_nil]
      rw [hrs, HM.out]
      exact ⟨u2, rfl, hown.kept (Dk.grown_of_below hb1) (by rcases hx : u2.ownBlock with _ | g <;> simp), hb.trans (hb1.mono hb.size)⟩
    | some r =>
      have hT := firstT_some y t HL.out r ef
      obtain ⟨hmay, t', ht'⟩ := firstL_some ef
      have hsc : scan t = r :: scan t' := by rw [ht', scan_cons r hmay]
      have hfs := frm_size r
      have hr8 := hmay.2
      have hne := nonempty_of (frm r) (by omega)
      have hlen : t.length = r.size + 6 + t'.length := by rw [ht', List.length_append, frl_length]
      have hnew : frames (done ++ [r]) = frames done ++ frl r := frames_snoc _ _
      have hfl : (frl r).length = (frm r).size := by rw [frl_length, frm_size]
      have HN := Lib.hid hnew
      have HF := Lib.hid hfl
      have HC := Lib.hid hsc
      have HT := Lib.hid hT
      have HT' := Lib.hid ht'
      have HZ := Lib.hid hlen
      have HFS := Lib.hid hfs
      have hfm : (frm r).size ≤ 8198 := by omega
      clear hnew hfl hsc hT ht' hlen ef hfs
      generalize frm r = f at *
      have hq : m + f.size ≤ s.size := by have := HQ.out; have := HZ.out; have := HFS.out; omega
      have hd : done.length ≤ 1099511627776 := by omega
      go_wp2_with fail
      refine (first_any y r f HT.out (by omega) _).mono ?_
      rintro e w1 ⟨rfl, hb1⟩
      have hown1 := hown.kept (Dk.grown_of_below hb1) (by rcases hx : u2.ownBlock with _ | g <;> simp)
      have hb2 := hb.trans (hb1.mono hb.size)
      have hs2 := hb2.size
      clear hown hb hb1
      go_wp2_with (at_builtin; refine wpList_append_lies _ rfl _ _ 22 rfl w.heap.size 9 i0 (.string ⟨#[]⟩) 1 16 Try.underlying22 hi hz0 hz1 hz2 rfl (by decide) u2 done.length (strs done) rfl (hown1.alloc _) ⟨w1.heap.size, 0, none⟩ 1 1 [.string r] rfl rfl (cell_one_new _ _ _) (by simp [Value.oneCell']) (by decide) (by unfold maxLen; omega) (by omega) (by simp; omega) (w1.heap.size + 1) (by simp) ?_)
      intro g cap w2 hown2 hgrow2 _ _
      have hb3 : Below w.heap.size w w2 := (hb2.alloc hs2 _).grown hgrow2 (by simp; omega) (fun k hk => (hown1.lt k hk).1)
      go_wp2
      have e1 : (frames (done ++ [r])).length = m + f.size := by rw [HN.out, List.length_append, HM.out, HF.out]
      refine ⟨⟨done ++ [r], t', ?_, ?_, ?_, ?_, ?_, hb3⟩, ?_⟩
      · rw [e1]; go_num
      · rw [HN.out, List.append_assoc, ← HT'.out]; exact HS.out
      · rw [HR.out, HC.out]; simp
      · rw [e1, List.length_append, List.length_singleton]; have := HFS.out; omega
      · rw [List.length_append, strs_snoc]; exact hown2
      · have := HFS.out; simp [intOf]; omega
end Go.Proofs.Ytgdaphckgckaaaa.Wl
