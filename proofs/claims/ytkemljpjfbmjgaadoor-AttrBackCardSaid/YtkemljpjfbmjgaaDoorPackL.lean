/-
  Plain mathematics: what was put is read, in order; what is cut is bad. Nothing of the program.
-/
import Derived.Test.YtkemljpjfbmjgaaDoorPackM
import Derived.Lib.Strings
namespace Go.Proofs.YtkemljpjfbmjgaaDoor.Pk
theorem cat_size (x s : ByteArray) : (x ++ s).size = x.size + s.size := ByteArray.size_append
theorem cat_left (x s : ByteArray) : (x ++ s).extract 0 x.size = x := ByteArray.extract_append_eq_left rfl
theorem cat_right (x s : ByteArray) : (x ++ s).extract x.size (x ++ s).size = s := ByteArray.extract_append_eq_right rfl (cat_size x s)
theorem cat_cut (x s : ByteArray) (m : Nat) : (x ++ s).extract 0 (x.size + m) = x ++ s.extract 0 m := by
  rw [ByteArray.extract_append]
  have h1 : x.extract 0 (x.size + m) = x := by
    apply ByteArray.ext
    rw [ByteArray.data_extract]
    apply Array.ext'
    rw [Array.toList_extract]
    simp
    rw [List.take_of_length_le (by simp)]
  rw [h1]
  congr 2
  · omega
  · omega

theorem next_cat (x s : ByteArray) : next (x ++ s) false (x.size : Int) = (x, s, false) := by
  rw [next_yes _ _ (by rw [cat_size]; omega), cat_left, cat_right]
/-- .. where the count is given otherwise -/
theorem next_cat' (x s : ByteArray) (m : Int) (h : m = x.size) : next (x ++ s) false m = (x, s, false) := by
  rw [h]; exact next_cat x s

theorem numB_size_in (n k : Nat) (h1 : 1 ≤ k) (h8 : k ≤ 8) : (numB n (k : Int)).size = k := by
  rw [numB_in n k h1 h8]
  show (nums n k).toArray.size = k
  rw [List.size_toArray, nums_length]
theorem numB_list (n k : Nat) (h1 : 1 ≤ k) (h8 : k ≤ 8) : (numB n (k : Int)).data.toList = nums n k := by
  rw [numB_in n k h1 h8]
theorem number_cat (n k : Nat) (s : ByteArray) (h1 : 1 ≤ k) (h8 : k ≤ 8) (hn : n < 256 ^ k) : number (numB n (k : Int) ++ s) false (k : Int) = (n, s, false) := by
  rw [number_in _ _ _ ⟨by omega, by omega⟩, next_cat' _ _ _ (by rw [numB_size_in n k h1 h8]), numB_list n k h1 h8, val_nums, Nat.mod_eq_of_lt hn]

theorem flagB_size (b : Bool) : (flagB b).size = 1 := rfl
theorem number_one (v : UInt8) (s : ByteArray) : number ((⟨#[v]⟩ : ByteArray) ++ s) false 1 = (v.toNat, s, false) := by
  rw [number_in _ _ _ ⟨by omega, by omega⟩, next_cat' ⟨#[v]⟩ s 1 rfl]
  simp [val]
theorem flag_one (v : UInt8) (s : ByteArray) : flag ((⟨#[v]⟩ : ByteArray) ++ s) false = if 1 < v.toNat then (false, ⟨#[]⟩, true) else (v.toNat == 1, s, false) := by
  unfold flag
  rw [number_one]
  simp
theorem flag_cat (b : Bool) (s : ByteArray) : flag (flagB b ++ s) false = (b, s, false) := by
  cases b <;> exact flag_one _ s
theorem text_cat (s t : ByteArray) (h : s.size ≤ 65535) : text (numB s.size 2 ++ (s ++ t)) false = (s, t, false) := by
  unfold text
  rw [show ((2 : Int)) = ((2 : Nat) : Int) from rfl, number_cat _ _ _ (by omega) (by omega) (by omega)]
  exact next_cat s t

theorem next_cut (x s : ByteArray) (m : Nat) (k : Int) (hk : k = x.size) (h : x.size ≤ m) : next ((x ++ s).extract 0 m) false k = (x, s.extract 0 (m - x.size), false) := by
  rw [show m = x.size + (m - x.size) by omega, cat_cut, next_cat' _ _ _ hk]
  congr 3
  omega

theorem size_extract0 (s : ByteArray) (m : Nat) : (s.extract 0 m).size = min m s.size := by
  have h : (s.extract 0 m).size = min m s.size - 0 := ByteArray.size_extract
  omega

theorem numB_cut (n k : Nat) (u s : ByteArray) (h1 : 1 ≤ k) (h8 : k ≤ 8) (hu : numB n 8 = u) (hs : numB n (k : Int) = s) : u.extract 0 k = s := by
  rw [← hu, ← hs]
  apply ByteArray.ext
  apply Array.ext'
  rw [ByteArray.data_extract, Array.toList_extract, numB_list n k h1 h8]
  have h : (numB n 8).data.toList = nums n 8 := numB_list n 8 (by omega) (by omega)
  rw [h]
  simp
  exact nums_take 8 n k h8
theorem numB_eqb (a b k : Nat) (s t : ByteArray) (h1 : 1 ≤ k) (h8 : k ≤ 8) (ha : a < 256 ^ k) (hb : b < 256 ^ k) (hs : numB a (k : Int) = s) (ht : numB b (k : Int) = t) : (s.toList == t.toList) = ((a : Int) == (b : Int)) := by
  rw [Bool.eq_iff_iff, beq_iff_eq, beq_iff_eq, ByteArray.toList_eq, ByteArray.toList_eq, ← hs, ← ht, numB_list a k h1 h8, numB_list b k h1 h8, nums_inj k a b ha hb]
  omega
theorem numB_first (n k : Nat) (s : ByteArray) (h1 : 1 ≤ k) (h8 : k ≤ 8) (hs : numB n (k : Int) = s) (h : 0 < s.size) : s[0].toNat = n % 256 := by
  subst hs
  have hl := numB_list n k h1 h8
  have e : (numB n (k : Int))[0] = (numB n (k : Int)).data.toList[0]'(by simpa using h) := rfl
  rw [e]
  cases k with
  | zero => omega
  | succ k =>
    have e2 : (numB n ((k + 1 : Nat) : Int)).data.toList[0]'(by simpa using h) = UInt8.ofNat n := by
      simp only [hl]
      rfl
    rw [e2, UInt8.toNat_ofNat']

/-- cut anywhere, what was put is bad -/
theorem cut_bad (a k : Nat) (s : ByteArray) (b : Bool) (c : Nat) (h1 : 1 ≤ k) (h8 : k ≤ 8) (hs : s.size ≤ 65535) (hc : c < k + 2 + s.size + 1)
    (n4 : Nat) (s4 x5 s5 s6 : ByteArray) (z4 z5 f6 z6 : Bool)
    (e4 : number ((numB a (k : Int) ++ (numB s.size 2 ++ (s ++ flagB b))).extract 0 c) false (k : Int) = (n4, s4, z4))
    (e5 : text s4 z4 = (x5, s5, z5)) (e6 : flag s5 z5 = (f6, s6, z6)) : z6 = true := by
  have hbad : z5 = true → z6 = true := by
    rintro rfl
    rw [flag_bad] at e6
    simp only [Prod.mk.injEq] at e6
    exact e6.2.2.symm
  have hbad4 : z4 = true → z6 = true := by
    rintro rfl
    rw [text_bad] at e5
    simp only [Prod.mk.injEq] at e5
    exact hbad e5.2.2.symm
  have hk := numB_size_in a k h1 h8
  have h2 : (numB s.size 2).size = 2 := numB_size_in s.size 2 (by omega) (by omega)
  rw [number_in _ _ _ ⟨by omega, by omega⟩] at e4
  by_cases c1 : c < k
  · rw [next_no _ _ _ (.inr (.inr (by rw [size_extract0]; omega)))] at e4
    simp only [Prod.mk.injEq] at e4
    exact hbad4 e4.2.2.symm
  · rw [next_cut _ _ _ _ (by rw [hk]) (by omega), hk] at e4
    simp only [Prod.mk.injEq] at e4
    obtain ⟨_, rfl, rfl⟩ := e4
    unfold text at e5
    rw [number_in _ _ _ ⟨by omega, by omega⟩] at e5
    by_cases c2 : c - k < 2
    · rw [next_no _ _ 2 (.inr (.inr (by rw [size_extract0]; omega)))] at e5
      rw [next_bad] at e5
      simp only [Prod.mk.injEq] at e5
      exact hbad e5.2.2.symm
    · rw [next_cut _ _ _ _ (by rw [h2]; rfl) (by omega), h2] at e5
      have hv : val (numB s.size 2).data.toList = s.size := by
        have := numB_list s.size 2 (by omega) (by omega)
        rw [show ((2 : Int)) = ((2 : Nat) : Int) from rfl, this, val_nums]
        omega
      rw [hv] at e5
      by_cases c3 : c - k - 2 < s.size
      · rw [next_no _ _ _ (.inr (.inr (by rw [size_extract0]; omega)))] at e5
        simp only [Prod.mk.injEq] at e5
        exact hbad e5.2.2.symm
      · rw [next_cut _ _ _ _ rfl (by omega)] at e5
        simp only [Prod.mk.injEq] at e5
        obtain ⟨_, rfl, rfl⟩ := e5
        unfold flag at e6
        rw [number_in _ _ _ ⟨by omega, by omega⟩, next_no _ _ 1 (.inr (.inr (by rw [size_extract0]; omega)))] at e6
        simp at e6
        exact e6.2.2

theorem size_of_nil (s : ByteArray) (h : s.data.toList = []) : s.size = 0 := by
  have h2 : s.data.toList.length = s.size := by simp
  rw [h] at h2
  exact h2.symm
theorem text_size (s : ByteArray) (b : Bool) : (text s b).2.1.size ≤ s.size := by
  unfold text
  exact Nat.le_trans (next_size _ _ _).2 (number_size s b 2)
theorem flag_size (s : ByteArray) (b : Bool) : (flag s b).2.1.size ≤ s.size := by
  unfold flag
  split
  · exact Nat.zero_le _
  · exact number_size s b 1

/-- what PackBack puts, and what it reads -/
structure Back (A k n5 : Nat) (S : ByteArray) (b : Bool) (rest T N NT F ALL R0 R1 R2 : ByteArray) (c : Nat) (C : ByteArray) (n4 : Nat) (s4 : ByteArray) (z4 : Bool) (x5 s5 : ByteArray) (z5 f6 : Bool) (s6 : ByteArray) : Prop where
  T1 : textB S = (T, true)
  N1 : numB A (k : Int) = N
  NT1 : N ++ T = NT
  F1 : flagB b = F
  ALL1 : NT ++ F = ALL
  R01 : ALL ++ rest = R0
  sz1 : N.size + T.size ≤ 65545
  sz2 : NT.size + F.size ≤ 65546
  sz3 : ALL.size = k + 2 + S.size + 1
  sz4 : R0.size = ALL.size + rest.size
  sz5 : R1.size ≤ R0.size
  sz6 : R2.size ≤ R0.size
  num : number R0 false (k : Int) = (A, R1, false)
  txt : text R1 false = (S, R2, false)
  flg : flag R2 false = (b, rest, false)
  c1 : n5 % ALL.size = c
  c2 : c < ALL.size
  C1 : ALL.extract 0 c = C
  C2 : C.size ≤ ALL.size
  num4 : number C false (k : Int) = (n4, s4, z4)
  txt5 : text s4 z4 = (x5, s5, z5)
  flg6 : flag s5 z5 = (f6, s6, true)
  sz7 : s4.size ≤ ALL.size
  sz8 : s5.size ≤ ALL.size
  sz9 : s6.size ≤ ALL.size

theorem back_data (A k n5 : Nat) (S : ByteArray) (b : Bool) (rest : ByteArray) (h1 : 1 ≤ k) (h8 : k ≤ 8) (hA : A < 256 ^ k) (hS : S.size ≤ 65535) :
    ∃ T N NT F ALL R0 R1 R2 c C n4 s4 z4 x5 s5 z5 f6 s6, Back A k n5 S b rest T N NT F ALL R0 R1 R2 c C n4 s4 z4 x5 s5 z5 f6 s6 := by
  obtain ⟨N, hN⟩ : ∃ N, numB A (k : Int) = N := ⟨_, rfl⟩
  have hNs : N.size = k := by rw [← hN]; exact numB_size_in A k h1 h8
  obtain ⟨L, hL⟩ : ∃ L, numB S.size 2 = L := ⟨_, rfl⟩
  have hLs : L.size = 2 := by rw [← hL]; exact numB_size_in S.size 2 (by omega) (by omega)
  obtain ⟨F, hF⟩ : ∃ F, flagB b = F := ⟨_, rfl⟩
  have hFs : F.size = 1 := by rw [← hF]; rfl
  obtain ⟨ALL, hALL⟩ : ∃ ALL, N ++ (L ++ S) ++ F = ALL := ⟨_, rfl⟩
  have hAs : ALL.size = k + 2 + S.size + 1 := by rw [← hALL]; simp only [cat_size]; omega
  have hA2 : N ++ (L ++ (S ++ F)) = ALL := by rw [← hALL]; simp only [ByteArray.append_assoc]
  have hclt : n5 % ALL.size < ALL.size := Nat.mod_lt _ (by omega)
  obtain ⟨c, hc⟩ : ∃ c, n5 % ALL.size = c := ⟨_, rfl⟩
  obtain ⟨C, hC⟩ : ∃ C, ALL.extract 0 c = C := ⟨_, rfl⟩
  have hCs : C.size ≤ ALL.size := by rw [← hC, size_extract0]; omega
  obtain ⟨n4, s4, z4, h4⟩ : ∃ n4 s4 z4, number C false (k : Int) = (n4, s4, z4) := ⟨_, _, _, rfl⟩
  obtain ⟨x5, s5, z5, h5⟩ : ∃ x5 s5 z5, text s4 z4 = (x5, s5, z5) := ⟨_, _, _, rfl⟩
  obtain ⟨f6, s6, z6, h6⟩ : ∃ f6 s6 z6, flag s5 z5 = (f6, s6, z6) := ⟨_, _, _, rfl⟩
  have e4 : s4.size ≤ C.size := by have := number_size C false (k : Int); rw [h4] at this; exact this
  have e5 : s5.size ≤ s4.size := by have := text_size s4 z4; rw [h5] at this; exact this
  have e6 : s6.size ≤ s5.size := by have := flag_size s5 z5; rw [h6] at this; exact this
  have hz6 : z6 = true := by
    refine cut_bad A k S b c h1 h8 hS (by omega) n4 s4 x5 s5 s6 z4 z5 f6 z6 ?_ h5 h6
    rw [hN, hL, hF, hA2, hC]
    exact h4
  subst hz6
  refine ⟨L ++ S, N, N ++ (L ++ S), F, ALL, ALL ++ rest, L ++ (S ++ (F ++ rest)), F ++ rest, c, C, n4, s4, z4, x5, s5, z5, f6, s6, ?_⟩
  exact { T1 := by unfold textB; rw [if_pos hS, hL], N1 := hN, NT1 := rfl, F1 := hF, ALL1 := hALL, R01 := rfl,
          sz1 := by simp only [cat_size]; omega, sz2 := by simp only [cat_size]; omega, sz3 := hAs, sz4 := cat_size _ _, sz5 := by rw [cat_size ALL]; simp only [cat_size]; omega, sz6 := by rw [cat_size ALL]; simp only [cat_size]; omega,
          num := by rw [← hA2, ← hN]; simp only [ByteArray.append_assoc]; exact number_cat A k _ h1 h8 hA,
          txt := by rw [← hL]; exact text_cat S _ hS,
          flg := by rw [← hF]; exact flag_cat b rest,
          c1 := hc, c2 := by omega, C1 := hC, C2 := hCs, num4 := h4, txt5 := h5, flg6 := h6, sz7 := by omega, sz8 := by omega, sz9 := by omega }
end Go.Proofs.YtkemljpjfbmjgaaDoor.Pk
