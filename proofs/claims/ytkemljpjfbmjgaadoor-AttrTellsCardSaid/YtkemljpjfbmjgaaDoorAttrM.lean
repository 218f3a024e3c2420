/-
  Plain mathematics of a number with a set of pairs: right, both, as bytes, read off bytes, in digits. Nothing of the program.
-/
import Derived.Test.YtkemljpjfbmjgaaDoorDepsB
import Derived.Test.YtkemljpjfbmjgaaDoorDepsT
import Derived.Test.YtkemljpjfbmjgaaDoorDepsF
namespace Go.Proofs.YtkemljpjfbmjgaaDoor.At
open Pk (numB number)
open Cm (number_more number_good)
open Dp (ID IsSet setD joinD putD getD textD triple)

/-- a number below 2^32, and a list of pairs -/
abbrev AT := Nat × List ID
def rightA (a : AT) : Bool := setD a.2 && decide (a.2.length ≤ 400)
def joinA (a b : AT) : AT := (max a.1 b.1, joinD a.2 b.2)
def putA (a : AT) : ByteArray × Bool := if rightA a = true then (numB a.1 4 ++ (putD a.2).1, true) else (⟨#[]⟩, false)
def getA (s : ByteArray) (b : Bool) : AT × ByteArray × Bool :=
  let r := getD (number s b 4).2.1 (number s b 4).2.2
  if r.2.2 = true then ((0, []), r.2) else (((number s b 4).1, r.1), r.2)
def textA (a : AT) : List UInt8 := Lib.decDigits a.1 ++ 91 :: (textD a.2 ++ [93])

theorem right_iff (a : AT) : rightA a = true ↔ IsSet a.2 ∧ a.2.length ≤ 400 := by unfold rightA; rw [Bool.and_eq_true, Dp.setD_iff, decide_eq_true_iff]
theorem right_put (a : AT) : rightA a = (putD a.2).2 := by
  unfold rightA putD
  split
  · rename_i h; simp [h.1, h.2]
  · rename_i h
    cases hs : setD a.2 <;> simp_all
/-! ## both -/
theorem join_comm {a b : AT} (ha : IsSet a.2) (hb : IsSet b.2) : joinA a b = joinA b a := by
  unfold joinA; rw [Dp.join_comm ha hb, Nat.max_comm]
theorem join_assoc {a b c : AT} (ha : IsSet a.2) (hb : IsSet b.2) (hc : IsSet c.2) : joinA (joinA a b) c = joinA a (joinA b c) := by
  unfold joinA; simp only; rw [Dp.join_assoc ha hb hc, Nat.max_assoc]
/-- what is in it already adds nothing -/
theorem join_in {a b : AT} (ha : IsSet a.2) (hb : IsSet b.2) (h : ∀ x ∈ b.2, x ∈ a.2) (k : b.1 ≤ a.1) : joinA a b = a := by
  unfold joinA
  have : joinD a.2 b.2 = a.2 := by
    refine IsSet.ext (IsSet.join ha _) ha fun x => ?_
    rw [Dp.mem_join_set hb]
    exact ⟨fun q => q.elim id (h x), .inl⟩
  rw [this, Nat.max_eq_left k]
theorem join_nil {a : AT} (ha : IsSet a.2) : joinA a (0, []) = a := join_in ha IsSet.nil (fun _ h => by cases h) (Nat.zero_le _)
theorem nil_join {a : AT} (ha : IsSet a.2) : joinA (0, []) a = a := by rw [join_comm IsSet.nil ha, join_nil ha]
theorem join_set {a b : AT} (ha : IsSet a.2) : IsSet (joinA a b).2 := IsSet.join ha _
theorem mem_left {a b : AT} {x : ID} (h : x ∈ a.2) : x ∈ (joinA a b).2 := Dp.mem_join.2 (.inl h)
theorem mem_right {a b : AT} (hb : IsSet b.2) {x : ID} (h : x ∈ b.2) : x ∈ (joinA a b).2 := (Dp.mem_join_set hb).2 (.inr h)
theorem join_length (b : List ID) : ∀ a : List ID, (joinD a b).length ≤ a.length + b.length := by
  induction b with
  | nil => intro a; exact Nat.le_refl _
  | cons x b ih =>
    intro a
    have h1 := ih (Dp.addD a x)
    have h2 := Dp.add_length a x
    rw [show joinD a (x :: b) = joinD (Dp.addD a x) b from rfl, List.length_cons]
    split at h2 <;> omega
/-! ## as bytes -/
theorem four_size (n : Nat) : (numB n 4).size = 4 := Pk.numB_size_in n 4 (by omega) (by omega)
theorem put_way (a : AT) (x : ByteArray) (ok : Bool) (h : putA a = (x, ok)) :
    (rightA a = true ∧ ok = true ∧ ∃ y, putD a.2 = (y, true) ∧ x = numB a.1 4 ++ y) ∨ (rightA a = false ∧ ok = false ∧ x = ⟨#[]⟩) := by
  unfold putA at h
  split at h
  · rename_i hr
    simp only [Prod.mk.injEq] at h
    refine .inl ⟨hr, h.2.symm, (putD a.2).1, ?_, h.1.symm⟩
    rw [right_put] at hr
    rw [← hr]
  · rename_i hr
    simp only [Prod.mk.injEq] at h
    exact .inr ⟨by simpa using hr, h.2.symm, h.1.symm⟩
theorem put_size (a : AT) (x : ByteArray) (h : putA a = (x, true)) : x.size = 6 + 4 * a.2.length := by
  rcases put_way _ _ _ h with ⟨_, _, y, e, rfl⟩ | ⟨_, k, _⟩
  · rw [Pk.cat_size, four_size, (Dp.putD_size _ _ e).1]; omega
  · cases k
theorem get_back (a : AT) (x t : ByteArray) (hn : a.1 < 4294967296) (h : putA a = (x, true)) : getA (x ++ t) false = (a, t, false) := by
  rcases put_way _ _ _ h with ⟨_, _, y, e, rfl⟩ | ⟨_, k, _⟩
  · have g : ∀ t, number (numB a.1 4 ++ t) false 4 = (a.1, t, false) := fun t => Pk.number_cat a.1 4 t (by omega) (by omega) (by omega)
    unfold getA
    rw [ByteArray.append_assoc, g]
    simp only
    rw [Dp.getD_back _ _ _ e]
    rfl
  · cases k
theorem get_more (s t : ByteArray) (a : AT) (r : ByteArray) (h : getA s false = (a, r, false)) : getA (s ++ t) false = (a, r ++ t, false) := by
  unfold getA at h ⊢
  obtain ⟨n, y, z, e⟩ := triple (number s false 4)
  rw [e] at h
  simp only at h
  obtain ⟨l, q, d, e2⟩ := triple (getD y z)
  rw [e2] at h
  simp only at h
  cases d
  · simp only [Bool.false_eq_true, if_false, Prod.mk.injEq, and_true] at h
    obtain ⟨rfl, rfl⟩ := h
    cases z
    · rw [number_more _ t _ _ _ e]
      simp only
      rw [Dp.getD_more _ t _ _ e2]
      rfl
    · exfalso
      unfold getD at e2
      rw [Pk.number_bad] at e2
      simp only at e2
      rw [Dp.readN_bad] at e2
      simp at e2
  · simp at h
theorem get_cut (a : AT) (x : ByteArray) (hn : a.1 < 4294967296) (h : putA a = (x, true)) (m : Nat) (hm : m < x.size) : (getA (x.extract 0 m) false).2.2 = true := by
  obtain ⟨l', r, d, e⟩ := triple (getA (x.extract 0 m) false)
  rw [e]
  cases d
  · have h1 := get_more _ (x.extract m x.size) _ _ e
    have h2 := get_back a x ⟨#[]⟩ hn h
    rw [show x ++ (⟨#[]⟩ : ByteArray) = x from ByteArray.append_empty] at h2
    rw [ByteArray.extract_append_extract, show min 0 m = 0 by omega, show max m x.size = x.size by omega, ByteArray.extract_zero_size, h2] at h1
    simp only [Prod.mk.injEq] at h1
    have h3 := congrArg ByteArray.size h1.2.1
    rw [Pk.cat_size, ByteArray.size_extract] at h3
    have : (⟨#[]⟩ : ByteArray).size = 0 := rfl
    omega
  · rfl
/-- the same bytes, the same -/
theorem put_inj (a b : AT) (x : ByteArray) (ha : a.1 < 4294967296) (hb : b.1 < 4294967296) (h : putA a = (x, true)) (k : putA b = (x, true)) : a = b := by
  have h1 := get_back a x ⟨#[]⟩ ha h
  rw [get_back b x ⟨#[]⟩ hb k] at h1
  exact (Prod.mk.inj h1).1.symm
/-! ## in digits -/
theorem open_inj : ∀ (l m k n : List UInt8), (∀ c ∈ l, c ≠ 91) → (∀ c ∈ m, c ≠ 91) → l ++ 91 :: k = m ++ 91 :: n → l = m ∧ k = n
  | [], [], k, n, _, _, h => ⟨rfl, (List.cons.inj h).2⟩
  | [], y :: m, k, n, _, hm, h => absurd (List.cons.inj h).1.symm (hm y (by simp))
  | x :: l, [], k, n, hl, _, h => absurd (List.cons.inj h).1 (hl x (by simp))
  | x :: l, y :: m, k, n, hl, hm, h => by
    have h' := List.cons.inj h
    have := open_inj l m k n (fun c hc => hl c (by simp [hc])) (fun c hc => hm c (by simp [hc])) h'.2
    exact ⟨by rw [h'.1, this.1], this.2⟩
theorem digits_open (n : Nat) : ∀ c ∈ Lib.decDigits n, c ≠ 91 := by
  intro c hc
  rintro rfl
  have e : (91 : UInt8).toNat = 91 := rfl
  have := Bl.digits_are _ _ hc
  omega
theorem text_inj (a b : AT) (ha : IsSet a.2) (hb : IsSet b.2) (h : textA a = textA b) : a = b := by
  unfold textA at h
  obtain ⟨h1, h2⟩ := open_inj _ _ _ _ (digits_open _) (digits_open _) h
  have h3 := Dp.text_inj a.2 b.2 (fun x hx => by have := (Dp.rightD_iff x).1 (ha.1 x hx); omega) (fun x hx => by have := (Dp.rightD_iff x).1 (hb.1 x hx); omega) (List.append_cancel_right h2)
  exact Prod.ext (Bl.digits_inj _ _ h1) h3
end Go.Proofs.YtkemljpjfbmjgaaDoor.At
