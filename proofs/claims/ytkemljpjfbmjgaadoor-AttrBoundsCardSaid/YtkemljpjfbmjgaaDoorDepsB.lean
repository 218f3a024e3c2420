/-
  Plain mathematics of sets of pairs: as bytes, and read off bytes. Nothing of the program.
-/
import Derived.Test.YtkemljpjfbmjgaaDoorDepsM
import Derived.Test.YtkemljpjfbmjgaaDoorCmdM
namespace Go.Proofs.YtkemljpjfbmjgaaDoor.Dp
open Pk (numB number)
open Cm (number_more number_good)

/-- what is put of each, behind s -/
def accD (s : ByteArray) (l : List ID) : ByteArray := l.foldl (fun s x => (s ++ numB x.1.toNat 1) ++ numB x.2.toNat 3) s
def putD (l : List ID) : ByteArray × Bool := if setD l = true ∧ l.length ≤ 400 then (accD (numB l.length 2) l, true) else (⟨#[]⟩, false)
/-- so many are read -/
def readN : Nat → ByteArray → Bool → List ID × ByteArray × Bool
  | 0, s, b => ([], s, b)
  | k + 1, s, b =>
    ((((number s b 1).1 : Int), ((number (number s b 1).2.1 (number s b 1).2.2 3).1 : Int)) :: (readN k (number (number s b 1).2.1 (number s b 1).2.2 3).2.1 (number (number s b 1).2.1 (number s b 1).2.2 3).2.2).1,
      (readN k (number (number s b 1).2.1 (number s b 1).2.2 3).2.1 (number (number s b 1).2.1 (number s b 1).2.2 3).2.2).2)
def getD (s : ByteArray) (b : Bool) : List ID × ByteArray × Bool :=
  let r := readN (min (number s b 2).1 401) (number s b 2).2.1 (number s b 2).2.2
  if r.2.2 = false ∧ r.1.length ≤ 400 ∧ setD r.1 = true then (r.1, r.2.1, false) else ([], ⟨#[]⟩, true)

theorem triple {α β γ : Type} (p : α × β × γ) : ∃ a b c, p = (a, b, c) := ⟨p.1, p.2.1, p.2.2, rfl⟩
theorem accD_cons (s : ByteArray) (x : ID) (l : List ID) : accD s (x :: l) = accD ((s ++ numB x.1.toNat 1) ++ numB x.2.toNat 3) l := rfl
theorem accD_snoc (s : ByteArray) (x : ID) (l : List ID) : accD s (l ++ [x]) = (accD s l ++ numB x.1.toNat 1) ++ numB x.2.toNat 3 := by
  unfold accD; rw [List.foldl_append]; rfl
theorem accD_from (s : ByteArray) (l : List ID) : accD s l = s ++ accD ⟨#[]⟩ l := by
  induction l generalizing s with
  | nil => exact ByteArray.append_empty.symm
  | cons x l ih =>
    rw [accD_cons, ih, accD_cons, ih (((⟨#[]⟩ : ByteArray) ++ _) ++ _)]
    simp only [ByteArray.append_assoc]
    congr 1
theorem one_size (n : Nat) : (numB n 1).size = 1 := Pk.numB_size_in n 1 (by omega) (by omega)
theorem two_size (n : Nat) : (numB n 2).size = 2 := Pk.numB_size_in n 2 (by omega) (by omega)
theorem three_size (n : Nat) : (numB n 3).size = 3 := Pk.numB_size_in n 3 (by omega) (by omega)
theorem accD_size (s : ByteArray) (l : List ID) : (accD s l).size = s.size + 4 * l.length := by
  induction l generalizing s with
  | nil => rfl
  | cons x l ih => rw [accD_cons, ih, Pk.cat_size, Pk.cat_size, one_size, three_size, List.length_cons]; omega
theorem readN_length : ∀ k s b, (readN k s b).1.length = k
  | 0, _, _ => rfl
  | k + 1, s, b => by rw [readN, List.length_cons, readN_length k]
theorem readN_size : ∀ k s b, (readN k s b).2.1.size ≤ s.size
  | 0, _, _ => Nat.le_refl _
  | k + 1, s, b => by
    rw [readN]
    exact Nat.le_trans (readN_size k _ _) (Nat.le_trans (Pk.number_size _ _ _) (Pk.number_size _ _ _))
theorem readN_bad : ∀ k s, (readN k s true).2.2 = true
  | 0, _ => rfl
  | k + 1, s => by
    rw [readN, Pk.number_bad, Pk.number_bad]
    exact readN_bad k _
/-- what each is that is read -/
theorem readN_bd : ∀ k s b, ∀ x ∈ (readN k s b).1, 0 ≤ x.1 ∧ x.1 < 256 ∧ 0 ≤ x.2 ∧ x.2 < 16777216
  | 0, _, _, x, h => by cases h
  | k + 1, s, b, x, h => by
    rw [readN, List.mem_cons] at h
    rcases h with rfl | h
    · have h1 := Pk.number_lt s b 1
      have h2 := Pk.number_lt (number s b 1).2.1 (number s b 1).2.2 3
      simp only [Int.cast_ofNat_Int] at h1 h2
      refine ⟨Int.natCast_nonneg _, ?_, Int.natCast_nonneg _, ?_⟩
      · show ((number s b 1).1 : Int) < 256
        omega
      · show ((number (number s b 1).2.1 (number s b 1).2.2 3).1 : Int) < 16777216
        omega
    · exact readN_bd k _ _ x h
/-- one more is read -/
theorem readN_snoc : ∀ k s b, readN (k + 1) s b =
    ((readN k s b).1 ++ [(((number (readN k s b).2.1 (readN k s b).2.2 1).1 : Int), ((number (number (readN k s b).2.1 (readN k s b).2.2 1).2.1 (number (readN k s b).2.1 (readN k s b).2.2 1).2.2 3).1 : Int))],
      (number (number (readN k s b).2.1 (readN k s b).2.2 1).2.1 (number (readN k s b).2.1 (readN k s b).2.2 1).2.2 3).2)
  | 0, _, _ => rfl
  | k + 1, s, b => by
    rw [readN, readN_snoc k]
    simp only [readN, List.cons_append]
theorem readN_more : ∀ (k : Nat) (s t : ByteArray) (l : List ID) (r : ByteArray), readN k s false = (l, r, false) → readN k (s ++ t) false = (l, r ++ t, false)
  | 0, s, t, l, r, h => by
    simp only [readN, Prod.mk.injEq, and_true] at h ⊢
    exact ⟨h.1, by rw [h.2]⟩
  | k + 1, s, t, l, r, h => by
    obtain ⟨n, y, z, e⟩ : ∃ n y z, number s false 1 = (n, y, z) := ⟨_, _, _, rfl⟩
    obtain ⟨m, y2, z2, e2⟩ : ∃ n y' z', number y z 3 = (n, y', z') := ⟨_, _, _, rfl⟩
    rw [readN, e] at h
    simp only [e2] at h
    simp only [Prod.mk.injEq] at h
    obtain ⟨h1, h2⟩ := h
    cases z2
    · obtain rfl := number_good _ _ _ _ _ e2
      have e' := number_more _ t _ _ _ e
      have e2' := number_more _ t _ _ _ e2
      obtain ⟨l', r', b', e3⟩ : ∃ l r b, readN k y2 false = (l, r, b) := ⟨_, _, _, rfl⟩
      rw [e3] at h1 h2
      simp only [Prod.mk.injEq] at h2
      obtain ⟨rfl, rfl⟩ := h2
      have e3' := readN_more k y2 t l' _ e3
      rw [readN, e']
      simp only [e2', e3', ← h1]
    · have := readN_bad k y2
      rw [h2] at this
      cases this
/-- what was put is read -/
theorem readN_put (l : List ID) (h : ∀ x ∈ l, rightD x = true) (t : ByteArray) : readN l.length (accD ⟨#[]⟩ l ++ t) false = (l, t, false) := by
  induction l generalizing t with
  | nil =>
    show ([], (⟨#[]⟩ : ByteArray) ++ t, false) = _
    rw [show (⟨#[]⟩ : ByteArray) ++ t = t from ByteArray.empty_append]
  | cons x l ih =>
    have hx := (rightD_iff x).1 (h x (by simp))
    have e : accD ⟨#[]⟩ (x :: l) ++ t = numB x.1.toNat 1 ++ (numB x.2.toNat 3 ++ (accD ⟨#[]⟩ l ++ t)) := by
      rw [accD_cons, accD_from, show (⟨#[]⟩ : ByteArray) ++ numB x.1.toNat 1 = numB x.1.toNat 1 from ByteArray.empty_append]
      simp only [ByteArray.append_assoc]
    have g1 : ∀ t, number (numB x.1.toNat 1 ++ t) false 1 = (x.1.toNat, t, false) := fun t => Pk.number_cat x.1.toNat 1 t (by omega) (by omega) (by omega)
    have g2 : ∀ t, number (numB x.2.toNat 3 ++ t) false 3 = (x.2.toNat, t, false) := fun t => Pk.number_cat x.2.toNat 3 t (by omega) (by omega) (by omega)
    rw [e, List.length_cons, readN, g1]
    simp only [g2, ih (fun y hy => h y (List.mem_cons_of_mem _ hy))]
    have e1 : ((x.1.toNat : Nat) : Int) = x.1 := by omega
    have e2 : ((x.2.toNat : Nat) : Int) = x.2 := by omega
    rw [e1, e2]

theorem putD_way (l : List ID) (x : ByteArray) (ok : Bool) (h : putD l = (x, ok)) : (setD l = true ∧ l.length ≤ 400 ∧ ok = true ∧ accD (numB l.length 2) l = x) ∨ ((setD l = false ∨ 400 < l.length) ∧ ok = false ∧ x = ⟨#[]⟩) := by
  unfold putD at h
  by_cases hc : setD l = true ∧ l.length ≤ 400
  · rw [if_pos hc] at h
    simp only [Prod.mk.injEq] at h
    exact .inl ⟨hc.1, hc.2, h.2.symm, h.1⟩
  · rw [if_neg hc] at h
    simp only [Prod.mk.injEq] at h
    refine .inr ⟨?_, h.2.symm, h.1.symm⟩
    by_cases hs : setD l = true
    · refine .inr (Nat.lt_of_not_le fun k => hc ⟨hs, k⟩)
    · exact .inl (by simpa using hs)
theorem putD_size (l : List ID) (x : ByteArray) (h : putD l = (x, true)) : x.size = 2 + 4 * l.length ∧ l.length ≤ 400 := by
  rcases putD_way _ _ _ h with ⟨_, h2, _, e⟩ | ⟨_, h2, _⟩
  · rw [← e, accD_size, two_size]; exact ⟨rfl, h2⟩
  · cases h2
theorem getD_back (l : List ID) (x t : ByteArray) (h : putD l = (x, true)) : getD (x ++ t) false = (l, t, false) := by
  rcases putD_way _ _ _ h with ⟨h1, h2, _, e⟩ | ⟨_, h2, _⟩
  · have g : ∀ t, number (numB l.length 2 ++ t) false 2 = (l.length, t, false) := fun t => Pk.number_cat l.length 2 t (by omega) (by omega) (by omega)
    unfold getD
    rw [← e, accD_from, ByteArray.append_assoc, g]
    simp only
    rw [show min l.length 401 = l.length from Nat.min_eq_left (by omega), readN_put l ((setD_iff l).1 h1).1]
    simp [h1, h2]
  · cases h2
theorem getD_more (s t : ByteArray) (l : List ID) (r : ByteArray) (h : getD s false = (l, r, false)) : getD (s ++ t) false = (l, r ++ t, false) := by
  unfold getD at h ⊢
  obtain ⟨n, y, z, e⟩ : ∃ n y z, number s false 2 = (n, y, z) := ⟨_, _, _, rfl⟩
  rw [e] at h
  simp only at h
  obtain ⟨l', r', b', e3⟩ : ∃ l r b, readN (min n 401) y z = (l, r, b) := ⟨_, _, _, rfl⟩
  rw [e3] at h
  simp only at h
  split at h
  · rename_i hc
    obtain ⟨rfl, hl, hs⟩ := hc
    simp only [Prod.mk.injEq, and_true] at h
    obtain ⟨rfl, rfl⟩ := h
    cases z
    · rw [number_more _ t _ _ _ e]
      simp only [readN_more _ _ t _ _ e3]
      rw [if_pos ⟨trivial, hl, hs⟩]
    · have := readN_bad (min n 401) y
      rw [e3] at this
      cases this
  · simp at h
theorem getD_cut (l : List ID) (x : ByteArray) (h : putD l = (x, true)) (m : Nat) (hm : m < x.size) : (getD (x.extract 0 m) false).2.2 = true := by
  obtain ⟨l', r, d, e⟩ := triple (getD (x.extract 0 m) false)
  rw [e]
  cases d
  · have h1 := getD_more _ (x.extract m x.size) _ _ e
    have h2 := getD_back l x ⟨#[]⟩ h
    rw [show x ++ (⟨#[]⟩ : ByteArray) = x from ByteArray.append_empty] at h2
    rw [ByteArray.extract_append_extract, show min 0 m = 0 by omega, show max m x.size = x.size by omega, ByteArray.extract_zero_size, h2] at h1
    simp only [Prod.mk.injEq] at h1
    have h3 := congrArg ByteArray.size h1.2.1
    rw [Pk.cat_size, ByteArray.size_extract] at h3
    have : (⟨#[]⟩ : ByteArray).size = 0 := rfl
    omega
  · rfl
end Go.Proofs.YtkemljpjfbmjgaaDoor.Dp
