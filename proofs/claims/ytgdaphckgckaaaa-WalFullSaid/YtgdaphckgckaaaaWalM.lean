/-
  Plain mathematics of a log of records: a record's frame, the record that bytes begin with, all records of bytes; that frames are told apart, and what a cut leaves. Conditions: as each theorem says.
-/
import Derived.Test.YtgdaphckgckaaaaPackL
import Derived.Test.YtgdaphckgckaaaaCrcM
namespace Go.Proofs.Ytgdaphckgckaaaa.Wl
open Pk

/-- it may be a record -/
def may (r : ByteArray) : Prop := 1 ≤ r.size ∧ r.size ≤ 8192
instance (r : ByteArray) : Decidable (may r) := inferInstanceAs (Decidable (_ ∧ _))

/-- the record, behind how long it is -/
def hd (r : ByteArray) : ByteArray := numB r.size 2 ++ r
/-- its frame -/
def frm (r : ByteArray) : ByteArray := hd r ++ numB (Crc.add 0 (hd r).data.toList) 4
/-- what Frame tells -/
def frame (r : ByteArray) : ByteArray × Bool := if may r then (frm r, true) else (⟨#[]⟩, false)
/-- the frame's bytes -/
def frl (r : ByteArray) : List UInt8 := (frm r).data.toList

theorem len_data (x : ByteArray) : x.data.toList.length = x.size := (Lib.size_eq x).symm

theorem hd_size (r : ByteArray) : (hd r).size = r.size + 2 := by
  unfold hd
  rw [cat_size, show (2 : Int) = ((2 : Nat) : Int) from rfl, numB_size_in _ 2 (by omega) (by omega)]
  omega
theorem frm_size (r : ByteArray) : (frm r).size = r.size + 6 := by
  unfold frm
  rw [cat_size, hd_size, show (4 : Int) = ((4 : Nat) : Int) from rfl, numB_size_in _ 4 (by omega) (by omega)]
theorem frl_length (r : ByteArray) : (frl r).length = r.size + 6 := by
  unfold frl; rw [len_data, frm_size]
theorem frame_yes (r : ByteArray) (h : may r) : frame r = (frm r, true) := by unfold frame; rw [if_pos h]
theorem frame_no (r : ByteArray) (h : ¬ may r) : frame r = (⟨#[]⟩, false) := by unfold frame; rw [if_neg h]

/-- the record that is read of bytes, if they begin with its frame -/
def rec (s : ByteArray) : ByteArray := (text s false).1
def firstB (s : ByteArray) : Option ByteArray := if may (rec s) ∧ frl (rec s) <+: s.data.toList then some (rec s) else none
def firstL (l : List UInt8) : Option ByteArray := firstB ⟨l.toArray⟩

theorem firstL_of (s : ByteArray) (l : List UInt8) (h : s.data.toList = l) : firstL l = firstB s := by
  subst h; rfl

theorem firstL_some {l : List UInt8} {r : ByteArray} (h : firstL l = some r) : may r ∧ ∃ t, l = frl r ++ t := by
  unfold firstL firstB at h
  split at h
  · rename_i h1
    obtain rfl := Option.some.inj h
    obtain ⟨t, ht⟩ := h1.2
    exact ⟨h1.1, t, ht.symm⟩
  · cases h

theorem text_frm (r : ByteArray) (h : may r) (t : ByteArray) : rec (frm r ++ t) = r := by
  have e : frm r ++ t = numB r.size 2 ++ (r ++ (numB (Crc.add 0 (hd r).data.toList) 4 ++ t)) := by
    unfold frm
    conv => lhs; arg 1; arg 1; unfold hd
    simp only [ByteArray.append_assoc]
  unfold rec
  rw [e, text_cat r _ (by have := h.2; omega)]

theorem first_frm (r : ByteArray) (h : may r) (t : List UInt8) : firstL (frl r ++ t) = some r := by
  have e : (⟨(frl r ++ t).toArray⟩ : ByteArray) = frm r ++ ⟨t.toArray⟩ := by
    apply ByteArray.ext
    apply Array.ext'
    simp [frl]
  have hp : frl r <+: (frm r ++ (⟨t.toArray⟩ : ByteArray)).data.toList := ⟨t, by simp [frl]⟩
  unfold firstL firstB
  rw [e, text_frm r h, if_pos ⟨h, hp⟩]

theorem frm_inj {a b : ByteArray} (ha : may a) (hb : may b) (h : frm a = frm b) : a = b := by
  have h1 := first_frm a ha []
  have h2 := first_frm b hb []
  have e : frl a = frl b := by unfold frl; rw [h]
  rw [e, h2] at h1
  exact (Option.some.inj h1).symm

theorem first_nil : firstL [] = none := by
  cases h : firstL [] with
  | none => rfl
  | some r =>
    obtain ⟨_, t, ht⟩ := firstL_some h
    have h1 := congrArg List.length ht
    rw [List.length_append, frl_length, List.length_nil] at h1
    omega

/-- all records that bytes begin with -/
def scanF : Nat → List UInt8 → List ByteArray
  | 0, _ => []
  | k + 1, l => match firstL l with
    | none => []
    | some r => r :: scanF k (l.drop (frl r).length)
def scan (l : List UInt8) : List ByteArray := scanF l.length l

theorem scanF_none (k : Nat) {l : List UInt8} (h : firstL l = none) : scanF k l = [] := by
  cases k with
  | zero => rfl
  | succ k => rw [scanF, h]

theorem scanF_enough : ∀ (k k' : Nat) (l : List UInt8), l.length ≤ k → l.length ≤ k' → scanF k l = scanF k' l
  | 0, k', l, h, _ => by
    obtain rfl : l = [] := List.eq_nil_of_length_eq_zero (by omega)
    rw [scanF_none _ first_nil, scanF_none _ first_nil]
  | k + 1, 0, l, _, h => by
    obtain rfl : l = [] := List.eq_nil_of_length_eq_zero (by omega)
    rw [scanF_none _ first_nil, scanF_none _ first_nil]
  | k + 1, k' + 1, l, h, h' => by
    cases e : firstL l with
    | none => rw [scanF_none _ e, scanF_none _ e]
    | some r =>
      rw [scanF, scanF, e]
      have hd : (l.drop (frl r).length).length ≤ l.length - 7 := by
        have := (firstL_some e).1.1
        rw [List.length_drop, frl_length]; omega
      have hl : 0 < l.length := by
        obtain ⟨_, t, ht⟩ := firstL_some e
        rw [ht, List.length_append, frl_length]; omega
      show r :: scanF k _ = r :: scanF k' _
      rw [scanF_enough k k' _ (by omega) (by omega)]

theorem scan_none {l : List UInt8} (h : firstL l = none) : scan l = [] := scanF_none _ h
theorem scan_some {l : List UInt8} {r : ByteArray} (h : firstL l = some r) : scan l = r :: scan (l.drop (frl r).length) := by
  have hl : 0 < l.length := by
    obtain ⟨_, t, ht⟩ := firstL_some h
    rw [ht, List.length_append, frl_length]; omega
  unfold scan
  rw [scanF_enough l.length (l.length - 1 + 1) l (by omega) (by omega), scanF, h]
  show r :: scanF _ _ = _
  rw [scanF_enough (l.length - 1) (l.drop (frl r).length).length _ (by rw [List.length_drop, frl_length]; omega) (Nat.le_refl _)]
theorem scan_cons (r : ByteArray) (h : may r) (t : List UInt8) : scan (frl r ++ t) = r :: scan t := by
  rw [scan_some (first_frm r h t), List.drop_left]
theorem scan_nil : scan [] = [] := scan_none first_nil

/-- frames one behind the other -/
def frames : List ByteArray → List UInt8
  | [] => []
  | r :: rs => frl r ++ frames rs
theorem frames_append : ∀ (a b : List ByteArray), frames (a ++ b) = frames a ++ frames b
  | [], _ => rfl
  | r :: a, b => by rw [List.cons_append, frames, frames_append a b, frames, List.append_assoc]
theorem frames_one (r : ByteArray) : frames [r] = frl r := by rw [frames, frames, List.append_nil]
theorem frames_snoc (a : List ByteArray) (r : ByteArray) : frames (a ++ [r]) = frames a ++ frl r := by rw [frames_append, frames_one]

theorem scan_frames : ∀ (rs : List ByteArray) (t : List UInt8), (∀ r ∈ rs, may r) → scan (frames rs ++ t) = rs ++ scan t
  | [], _, _ => rfl
  | r :: rs, t, h => by
    rw [frames, List.append_assoc, scan_cons r (h r (by simp)), scan_frames rs t (fun x hx => h x (by simp [hx])), List.cons_append]
theorem scan_all (rs : List ByteArray) (h : ∀ r ∈ rs, may r) : scan (frames rs) = rs := by
  have := scan_frames rs [] h
  rw [List.append_nil, scan_nil, List.append_nil] at this
  exact this

theorem scanF_split : ∀ (k : Nat) (l : List UInt8), l.length ≤ k → (∀ r ∈ scanF k l, may r) ∧ ∃ t, l = frames (scanF k l) ++ t ∧ firstL t = none
  | 0, l, h => by
    obtain rfl : l = [] := List.eq_nil_of_length_eq_zero (by omega)
    exact ⟨fun r hr => by simp [scanF] at hr, [], rfl, first_nil⟩
  | k + 1, l, h => by
    cases e : firstL l with
    | none => rw [scanF_none _ e]; exact ⟨fun r hr => by simp at hr, l, rfl, e⟩
    | some r =>
      obtain ⟨hm, t, ht⟩ := firstL_some e
      have hk : (l.drop (frl r).length).length ≤ k := by rw [List.length_drop, frl_length]; omega
      obtain ⟨h1, t', h2, h3⟩ := scanF_split k _ hk
      rw [scanF, e]
      refine ⟨fun x hx => ?_, t', ?_, h3⟩
      · rcases List.mem_cons.1 hx with rfl | hx
        · exact hm
        · exact h1 x hx
      · show l = (frl r ++ frames _) ++ t'
        rw [List.append_assoc, ← h2, ht, List.drop_left]

theorem scan_split (l : List UInt8) : (∀ r ∈ scan l, may r) ∧ ∃ t, l = frames (scan l) ++ t ∧ firstL t = none := scanF_split _ l (Nat.le_refl _)
theorem scan_may (l : List UInt8) : ∀ r ∈ scan l, may r := (scan_split l).1
theorem scan_le (l : List UInt8) : (frames (scan l)).length ≤ l.length := by
  obtain ⟨_, t, ht, _⟩ := scan_split l
  rw [congrArg List.length ht, List.length_append]; omega
theorem scan_take (l : List UInt8) : l.take (frames (scan l)).length = frames (scan l) := by
  obtain ⟨_, t, ht, _⟩ := scan_split l
  conv => lhs; arg 2; rw [ht]
  exact List.take_left

theorem frames_length : ∀ rs : List ByteArray, 6 * rs.length ≤ (frames rs).length
  | [] => Nat.zero_le _
  | r :: rs => by
    have := frames_length rs
    rw [frames, List.length_append, frl_length, List.length_cons]; omega
theorem frames_length7 : ∀ rs : List ByteArray, (∀ r ∈ rs, may r) → 7 * rs.length ≤ (frames rs).length
  | [], _ => Nat.zero_le _
  | r :: rs, h => by
    have := frames_length7 rs (fun x hx => h x (by simp [hx]))
    have := (h r (by simp)).1
    rw [frames, List.length_append, frl_length, List.length_cons]; omega

/-- a frame that is cut is none -/
theorem first_cut (r : ByteArray) (h : may r) (n : Nat) (hn : n < (frl r).length) : firstL ((frl r).take n) = none := by
  cases e : firstL ((frl r).take n) with
  | none => rfl
  | some x =>
    obtain ⟨hx, t, ht⟩ := firstL_some e
    have h1 : frl r = frl x ++ (t ++ (frl r).drop n) := by
      rw [← List.append_assoc, ← ht, List.take_append_drop]
    have h2 := first_frm x hx (t ++ (frl r).drop n)
    have h3 := first_frm r h []
    rw [List.append_nil] at h3
    rw [← h1, h3] at h2
    obtain rfl := Option.some.inj h2
    have h4 := congrArg List.length ht
    rw [List.length_take, List.length_append] at h4
    omega

/-- frames that are cut: whole ones, in order, and all that lie ahead of the cut -/
theorem scan_cut : ∀ (rs : List ByteArray) (n : Nat), (∀ r ∈ rs, may r) → n ≤ (frames rs).length →
    ∃ k, k ≤ rs.length ∧ scan ((frames rs).take n) = rs.take k ∧ ∀ j, j ≤ rs.length → (frames (rs.take j)).length ≤ n → j ≤ k
  | [], n, _, _ => ⟨0, Nat.le_refl _, by simp [frames, scan_nil], fun j hj _ => hj⟩
  | r :: rs, n, h, hn => by
    have hr := h r (by simp)
    by_cases hc : n < (frl r).length
    · refine ⟨0, Nat.zero_le _, ?_, fun j hj hj2 => ?_⟩
      · rw [frames, List.take_append_of_le_length (by omega), scan_none (first_cut r hr n hc)]; rfl
      · cases j with
        | zero => exact Nat.le_refl _
        | succ j => rw [List.take_succ_cons, frames, List.length_append] at hj2; omega
    · obtain ⟨k, h1, h2, h3⟩ := scan_cut rs (n - (frl r).length) (fun x hx => h x (by simp [hx])) (by rw [frames, List.length_append] at hn; omega)
      refine ⟨k + 1, by simp; omega, ?_, fun j hj hj2 => ?_⟩
      · rw [frames, List.take_append, List.take_of_length_le (by omega), scan_cons r hr, h2, List.take_succ_cons]
      · cases j with
        | zero => omega
        | succ j =>
          rw [List.take_succ_cons, frames, List.length_append] at hj2
          have := h3 j (by simpa using hj) (by omega)
          omega
end Go.Proofs.Ytgdaphckgckaaaa.Wl
