/-
  Plain mathematics of sets of pairs: in digits. Nothing of the program.
-/
import Derived.Test.YtkemljpjfbmjgaaDoorDepsM
import Derived.Test.YtkemljpjfbmjgaaDoorBalM
import Derived.Lib.ItoaLen
namespace Go.Proofs.YtkemljpjfbmjgaaDoor.Dp

def itemD (x : ID) : List UInt8 := Lib.itoa x.1 ++ 46 :: Lib.itoa x.2
def textD : List ID → List UInt8
  | [] => []
  | [x] => itemD x
  | x :: y :: l => itemD x ++ 44 :: textD (y :: l)

theorem textD_cons (x : ID) (l : List ID) (h : l ≠ []) : textD (x :: l) = itemD x ++ 44 :: textD l := by
  cases l with
  | nil => exact absurd rfl h
  | cons y l => rfl
/-- one more is told -/
theorem textD_snoc (x : ID) : ∀ (l : List ID), l ≠ [] → textD (l ++ [x]) = (textD l ++ [44]) ++ itemD x
  | [], h => absurd rfl h
  | [y], _ => by
    show itemD y ++ 44 :: itemD x = _
    simp [textD]
  | y :: z :: l, _ => by
    have ih := textD_snoc x (z :: l) (by simp)
    rw [List.cons_append, textD_cons y _ (by simp), ih, textD_cons y (z :: l) (by simp)]
    simp
theorem item_length (x : ID) (h : -9223372036854775808 ≤ x.1 ∧ x.1 ≤ 9223372036854775807) (k : -9223372036854775808 ≤ x.2 ∧ x.2 ≤ 9223372036854775807) : (itemD x).length ≤ 43 := by
  have h1 := Lib.itoa_length_le x.1 h.1 h.2
  have h2 := Lib.itoa_length_le x.2 k.1 k.2
  unfold itemD
  rw [List.length_append, List.length_cons]
  omega
theorem text_length : ∀ (l : List ID), (∀ x ∈ l, (-9223372036854775808 ≤ x.1 ∧ x.1 ≤ 9223372036854775807) ∧ -9223372036854775808 ≤ x.2 ∧ x.2 ≤ 9223372036854775807) → (textD l).length ≤ 44 * l.length
  | [], _ => Nat.le_refl _
  | [x], h => by
    have := item_length x (h x (by simp)).1 (h x (by simp)).2
    show (itemD x).length ≤ 44 * 1
    omega
  | x :: y :: l, h => by
    have h1 := item_length x (h x (by simp)).1 (h x (by simp)).2
    have h2 := text_length (y :: l) (fun z hz => h z (List.mem_cons_of_mem _ hz))
    rw [textD_cons x _ (by simp), List.length_append, List.length_cons, List.length_cons (a := x)]
    omega

theorem itoa_nat (n : Int) (h : 0 ≤ n) : Lib.itoa n = Lib.decDigits n.toNat := by unfold Lib.itoa; rw [if_neg (by omega)]
/-- no comma in what is told of one -/
theorem item_ne (x : ID) (h1 : 0 ≤ x.1) (h2 : 0 ≤ x.2) : ∀ c ∈ itemD x, c ≠ 44 := by
  intro c hc
  unfold itemD at hc
  rw [itoa_nat _ h1, itoa_nat _ h2, List.mem_append, List.mem_cons] at hc
  rintro rfl
  have e : (44 : UInt8).toNat = 44 := rfl
  rcases hc with hc | hc | hc
  · have := Bl.digits_are _ _ hc; omega
  · exact absurd hc (by decide)
  · have := Bl.digits_are _ _ hc; omega
theorem item_inj (x y : ID) (h1 : 0 ≤ x.1) (h3 : 0 ≤ y.1) (h : itemD x = itemD y) : x = y := by
  unfold itemD at h
  rw [itoa_nat _ h1, itoa_nat _ h3] at h
  obtain ⟨k1, k2⟩ := Bl.point_inj _ _ _ _ (Bl.digits_ne _) (Bl.digits_ne _) h
  have := Bl.digits_inj _ _ k1
  exact id_ext (by omega) (Bl.itoa_inj _ _ k2)
/-- what stands ahead of the first comma is the same, and what stands behind it -/
theorem comma_inj : ∀ (l m k n : List UInt8), (∀ c ∈ l, c ≠ 44) → (∀ c ∈ m, c ≠ 44) → l ++ 44 :: k = m ++ 44 :: n → l = m ∧ k = n
  | [], [], k, n, _, _, h => ⟨rfl, (List.cons.inj h).2⟩
  | [], y :: m, k, n, _, hm, h => absurd (List.cons.inj h).1.symm (hm y (by simp))
  | x :: l, [], k, n, hl, _, h => absurd (List.cons.inj h).1 (hl x (by simp))
  | x :: l, y :: m, k, n, hl, hm, h => by
    have h' := List.cons.inj h
    have := comma_inj l m k n (fun c hc => hl c (by simp [hc])) (fun c hc => hm c (by simp [hc])) h'.2
    exact ⟨by rw [h'.1, this.1], this.2⟩
theorem item_some (x : ID) : itemD x ≠ [] := by unfold itemD; simp
theorem text_nil (l : List ID) : textD l = [] ↔ l = [] := by
  constructor
  · intro h
    cases l with
    | nil => rfl
    | cons x l =>
      cases l with
      | nil => exact absurd h (item_some x)
      | cons y l => simp [textD] at h
  · rintro rfl; rfl
theorem text_inj : ∀ (a b : List ID), (∀ x ∈ a, 0 ≤ x.1 ∧ 0 ≤ x.2) → (∀ x ∈ b, 0 ≤ x.1 ∧ 0 ≤ x.2) → textD a = textD b → a = b
  | [], b, _, _, h => ((text_nil b).1 h.symm).symm
  | a, [], _, _, h => (text_nil a).1 h
  | [x], [y], ha, hb, h => by rw [item_inj x y (ha x (by simp)).1 (hb y (by simp)).1 h]
  | [x], y :: z :: b, ha, hb, h => by
    have h1 : (44 : UInt8) ∈ itemD x := by
      have e : itemD x = itemD y ++ 44 :: textD (z :: b) := h
      rw [e]; simp
    exact absurd rfl (item_ne x (ha x (by simp)).1 (ha x (by simp)).2 _ h1)
  | x :: w :: a, [y], ha, hb, h => by
    have h1 : (44 : UInt8) ∈ itemD y := by
      have e : itemD x ++ 44 :: textD (w :: a) = itemD y := h
      rw [← e]; simp
    exact absurd rfl (item_ne y (hb y (by simp)).1 (hb y (by simp)).2 _ h1)
  | x :: w :: a, y :: z :: b, ha, hb, h => by
    have hx := ha x (by simp)
    have hy := hb y (by simp)
    obtain ⟨k1, k2⟩ := comma_inj _ _ _ _ (item_ne x hx.1 hx.2) (item_ne y hy.1 hy.2) (show itemD x ++ 44 :: textD (w :: a) = itemD y ++ 44 :: textD (z :: b) from h)
    rw [item_inj x y hx.1 hy.1 k1, text_inj (w :: a) (z :: b) (fun c hc => ha c (List.mem_cons_of_mem _ hc)) (fun c hc => hb c (List.mem_cons_of_mem _ hc)) k2]
end Go.Proofs.YtkemljpjfbmjgaaDoor.Dp
