/-
  Contract: the document's own Scan. Conditions: a text's length.
-/
import Derived.Test.YtgdaphckgckaaaaWalS
namespace Go.Proofs.Ytgdaphckgckaaaa.Wl
open Go.RowKit
set_option maxRecDepth 100000

theorem sub_of (s : ByteArray) (l t : List UInt8) (h : s.data.toList = l ++ t) (k : Nat) : (s.extract l.length (l.length + k)).data.toList = t.take k := by
  rw [Lib.extract_data, h, List.drop_left, show l.length + k - l.length = k by omega]

theorem prefix_iff (s f : ByteArray) (l t : List UInt8) (h : s.data.toList = l ++ t) : (s.extract l.length (l.length + f.size)).toList = f.toList ↔ f.data.toList <+: t := by
  rw [ByteArray.toList_eq, ByteArray.toList_eq, sub_of s l t h]
  constructor
  · intro e; exact ⟨t.drop f.size, by rw [← e]; exact List.take_append_drop _ _⟩
  · rintro ⟨u, rfl⟩; exact List.take_left' (len_data f)

theorem rec_of (y : ByteArray) (t : List UInt8) (h : y.data.toList = t) (x : ByteArray) (hx : rec y = x) : firstL t = if may x ∧ frl x <+: t then some x else none := by
  rw [firstL_of y t h]
  unfold firstB
  rw [hx, h]

set_option maxHeartbeats 1000000 in
set_option maxRecDepth 100000 in
theorem refscan_any (s : ByteArray) (rs : List ByteArray) (h : scan s.data.toList = rs) (hs : s.size ≤ 1099511627776) (w : World) :
    Calls Try.prog 14 #[.string s] w fun e w' => ∃ v, e = .returned (.tuple #[v, .int .i64 ((frames rs).length : Nat)]) ∧ w'.ownsRow w.heap.size 9 1 v rs.length (strs rs) ∧ Below w.heap.size w w' := by
  obtain ⟨i0, hi, hz0, hz1, hz2⟩ := info_parts (P := Try.prog) (e := 9) (z := .string ⟨#[]⟩) (size := 1) (bytes := 16) (by kernel_rfl)
  have H := Lib.hid h
  clear h
  go_enter Try.func14, Try.ntmps14
  go_wp2_with fail
  go_loopw [4, 5] (fun r n W => ∃ (done : List ByteArray) (t : List UInt8), n = .int .i64 ((frames done).length : Nat) ∧ s.data.toList = frames done ++ t ∧ rs = done ++ scan t ∧ 6 * done.length ≤ (frames done).length ∧ W.ownsRow w.heap.size 9 1 r done.length (strs done) ∧ Below w.heap.size w W) (fun _ n _ => s.size - (intOf n).toNat)
  case atStart => exact ⟨[], _, rfl, rfl, H.out.symm, Nat.zero_le _, World.ownsRow_nil _ _ _ _, Below.refl _ _⟩
  case round =>
    obtain ⟨done, t, rfl, hst, hrs, h6, hown, hb⟩ := hrel
    obtain ⟨q1, q2, q3, q4⟩ := rest_of s _ t hst
    have hpre := fun f => prefix_iff s f _ t hst
    generalize hm : (frames done).length = m at *
    obtain ⟨y, hy⟩ : ∃ y, s.extract m s.size = y := ⟨_, rfl⟩
    rw [hy] at q2 q3
    obtain ⟨x, y1, z, hx⟩ : ∃ x y1 z, Pk.text y false = (x, y1, z) := ⟨_, _, _, rfl⟩
    have hr : rec y = x := by unfold rec; rw [hx]
    have hxs : x.size ≤ 65535 := by rw [← hr]; exact rec_size y
    have hrec := rec_of y t q2 x hr
    have m0 : (0 : Int) ≤ (m : Int) := by omega
    have m1 : (m : Int) ≤ (s.size : Int) := by omega
    have hys : y.size ≤ 1099511627776 := by omega
    obtain ⟨f, ok, hf⟩ : ∃ f ok, frame x = (f, ok) := ⟨_, _, rfl⟩
    have HQ := Lib.hid q4
    have HM := Lib.hid hm
    have HS := Lib.hid hst
    have HR := Lib.hid hrs
    have HX := Lib.hid hx
    have HF := Lib.hid hf
    have HP := Lib.hid (hpre f)
    clear hm hst hrs q4 q3 q2 hx hpre hr
    go_wp2_with fail
    refine (Pk.reftext_any y false x y1 z HX.out (by omega) _).mono ?_
    rintro e w1 ⟨rfl, hb1⟩
    obtain ⟨ha, hbW⟩ := Pk.box1 hb1
    have hown1 := hown.kept (Dk.grown_of_below hbW) (by rcases hx : u4.ownBlock with _ | g <;> simp)
    have hb2 := hb.trans (hbW.mono hb.size)
    clear hown hb hb1 hbW ha
    go_wp2_with fail
    have hown2 := hown1.alloc (.cells #[.string y1, .bool z] 70)
    have hb3 := hb2.alloc hb2.size (.cells #[.string y1, .bool z] 70)
    clear hown1 hb2
    generalize w1.alloc (.cells #[.string y1, .bool z] 70) = W at *
    generalize w1.heap.size = g1 at *
    refine (refframe_any x f ok HF.out (by unfold maxLen; omega) _).mono ?_
    rintro e w2 ⟨rfl, hb4⟩
    have hown3 := hown2.kept (Dk.grown_of_below hb4) (by rcases hx : u4.ownBlock with _ | g <;> simp)
    have hb5 := hb3.trans (hb4.mono hb3.size)
    clear hown2 hb3 hb4
    by_cases hmay : may x
    · obtain ⟨rfl, rfl⟩ : frm x = f ∧ true = ok := by have := HF.out; rw [frame_yes x hmay] at this; simpa using this
      have hfs := frm_size x
      have hx8 := hmay.2
      have hx1 := hmay.1
      have hfl : (frl x).length = (frm x).size := by rw [frl_length, frm_size]
      have hP := HP.out
      change _ ↔ frl x <+: t at hP
      have hnew : frames (done ++ [x]) = frames done ++ frl x := frames_snoc _ _
      by_cases hle : m + (frm x).size ≤ s.size
      · obtain ⟨u, hu⟩ : ∃ u, s.extract m (m + (frm x).size) = u := ⟨_, rfl⟩
        rw [hu] at hP
        have t1 : (m : Int) + ((frm x).size : Int) ≤ (s.size : Int) := by omega
        have t2 : (m : Int) ≤ (m : Int) + ((frm x).size : Int) := by omega
        have t3 : ((m : Int) + ((frm x).size : Int)).toNat = m + (frm x).size := by omega
        have t4 : (0 : Int) ≤ (m : Int) + ((frm x).size : Int) := by omega
        by_cases hp : frl x <+: t
        · have hb : (u.toList == (frm x).toList) = true := by rw [beq_iff_eq]; exact hP.2 hp
          have hrec' : firstL t = some x := by rw [hrec, if_pos ⟨hmay, hp⟩]
          obtain ⟨t', ht'⟩ : ∃ t', t = frl x ++ t' := by obtain ⟨t', h⟩ := hp; exact ⟨t', h.symm⟩
          have hsc : scan t = x :: scan t' := by rw [ht', scan_cons x hmay]
          have HN := Lib.hid hnew
          have HFL := Lib.hid hfl
          have HC := Lib.hid hsc
          have HT' := Lib.hid ht'
          have HFS := Lib.hid hfs
          have hs5 := hb5.size
          have hd : done.length ≤ 1099511627776 := by omega
          have hfm : (frm x).size ≤ 8198 := by omega
          clear hrec hP hnew hfl hsc ht' hfs hp hrec' HP HF
          generalize frm x = f at *
          go_wp2_with (at_builtin; refine wpList_append_lies _ rfl _ _ 22 rfl w.heap.size 9 i0 (.string ⟨#[]⟩) 1 16 Try.underlying22 hi hz0 hz1 hz2 rfl (by decide) u4 done.length (strs done) rfl (hown3.alloc _) ⟨w2.heap.size, 0, none⟩ 1 1 [.string x] rfl rfl (cell_one_new _ _ _) (by simp [Value.oneCell']) (by decide) (by unfold maxLen; omega) (by omega) (by simp; omega) (w2.heap.size + 1) (by simp) ?_)
          intro g cap w3 hown4 hgrow4 _ _
          have hb6 : Below w.heap.size w w3 := (hb5.alloc hs5 _).grown hgrow4 (by simp; omega) (fun k hk => (hown3.lt k hk).1)
          go_wp2
          have e1 : (frames (done ++ [x])).length = m + f.size := by rw [HN.out, List.length_append, HM.out, HFL.out]
          refine ⟨⟨done ++ [x], t', ?_, ?_, ?_, ?_, ?_, hb6⟩, ?_⟩
          · rw [e1]; go_num
          · rw [HN.out, List.append_assoc, ← HT'.out]; exact HS.out
          · rw [HR.out, HC.out]; simp
          · rw [e1, List.length_append, List.length_singleton]; have := HFS.out; omega
          · rw [List.length_append, strs_snoc]; exact hown4
          · have := HFS.out; simp [intOf]; omega
        · have hb : (u.toList == (frm x).toList) = false := by rw [beq_eq_false_iff_ne]; exact fun e => hp (hP.1 e)
          have hrs : rs = done := by rw [HR.out, scan_none (hrec.trans (if_neg fun c => hp c.2)), List.append_nil]
          have HRS := Lib.hid hrs
          clear hrec hP hnew hfl hfs hp HP HF hrs
          generalize frm x = f at *
          go_wp2
          go_ret2
          rw [HRS.out, HM.out]
          exact ⟨u4, rfl, hown3, hb5⟩
      · have hnp : ¬ frl x <+: t := fun ⟨t', h⟩ => by
          have := congrArg List.length h
          rw [List.length_append, hfl] at this
          have := HQ.out
          omega
        have hrs : rs = done := by rw [HR.out, scan_none (hrec.trans (if_neg fun c => hnp c.2)), List.append_nil]
        have t1 : (s.size : Int) < (m : Int) + ((frm x).size : Int) := by omega
        have HRS := Lib.hid hrs
        clear hrec hP hnew hfl hfs hnp HP HF hrs hle
        have hfm : (frm x).size ≤ 8198 := by rw [frm_size]; omega
        generalize frm x = f at *
        go_wp2
        go_ret2
        rw [HRS.out, HM.out]
        exact ⟨u4, rfl, hown3, hb5⟩
    · obtain ⟨rfl, rfl⟩ : (⟨#[]⟩ : ByteArray) = f ∧ false = ok := by have := HF.out; rw [frame_no x hmay] at this; simpa using this
      have hrs : rs = done := by rw [HR.out, scan_none (hrec.trans (if_neg fun c => hmay c.1)), List.append_nil]
      have HRS := Lib.hid hrs
      clear hrec HP HF hrs hmay
      go_wp2
      go_ret2
      rw [HRS.out, HM.out]
      exact ⟨u4, rfl, hown3, hb5⟩
end Go.Proofs.Ytgdaphckgckaaaa.Wl
