/-
  Plain mathematics of ballots: right, zero, the order, the next one, as bytes, as digits. Nothing of the program.
-/
import Derived.Test.YtkemljpjfbmjgaaDoorPackL
import Derived.Lib.ItoaNum
import Derived.Lib.ItoaMem
namespace Go.Proofs.YtkemljpjfbmjgaaDoor.Bl
open Pk (numB number)

def zeroB (r v : Int) : Bool := r == 0 && v == 0
def repB (v : Int) : Bool := decide (1 ≤ v) && decide (v ≤ 7)
def rightB (r v : Int) : Bool := zeroB r v || (decide (0 < r) && repB v)
def orderB (a v b u : Int) : Int := if a = b ∧ v = u then 0 else if a < b ∨ (a = b ∧ v < u) then -1 else 1
def nextB (r k : Int) : Int × Int × Bool := if repB k = true ∧ r ≠ 4294967295 then (r + 1, k, true) else (0, 0, false)
def low (v : Int) : Nat := (v % 256).toNat
def putB (r v : Int) : ByteArray := numB r.toNat 4 ++ numB (v % 18446744073709551616).toNat 1
def getB (s : ByteArray) (b : Bool) : Int × Int × ByteArray × Bool :=
  let n := number s b 4
  let m := number n.2.1 n.2.2 1
  if m.2.2 = false ∧ rightB n.1 m.1 = true then (n.1, m.1, m.2.1, false) else (0, 0, ⟨#[]⟩, true)
def textB (r v : Int) : ByteArray := ⟨(Lib.decDigits r.toNat ++ (46 :: Lib.itoa v)).toArray⟩

theorem repB_yes {v : Int} (h : 1 ≤ v ∧ v ≤ 7) : repB v = true := by simp [repB, h]
theorem repB_iff (v : Int) : repB v = true ↔ 1 ≤ v ∧ v ≤ 7 := by simp [repB]
theorem zeroB_iff (r v : Int) : zeroB r v = true ↔ r = 0 ∧ v = 0 := by simp [zeroB]
theorem rightB_iff (r v : Int) : rightB r v = true ↔ (r = 0 ∧ v = 0) ∨ (0 < r ∧ 1 ≤ v ∧ v ≤ 7) := by simp [rightB, zeroB_iff, repB_iff]

/-- of two ways one -/
theorem next_way (r k : Int) : (repB k = true ∧ r ≠ 4294967295 ∧ nextB r k = (r + 1, k, true)) ∨ ((repB k = false ∨ r = 4294967295) ∧ nextB r k = (0, 0, false)) := by
  unfold nextB
  by_cases h : repB k = true ∧ r ≠ 4294967295
  · rw [if_pos h]; exact .inl ⟨h.1, h.2, rfl⟩
  · rw [if_neg h]
    refine .inr ⟨?_, rfl⟩
    cases hk : repB k with
    | false => exact .inl rfl
    | true => exact .inr (Classical.not_not.1 fun c => h ⟨hk, c⟩)

theorem getB_of (s : ByteArray) (b : Bool) (n m : Nat) (y1 y2 : ByteArray) (z1 z2 : Bool) (h1 : number s b 4 = (n, y1, z1)) (h2 : number y1 z1 1 = (m, y2, z2)) :
    getB s b = if z2 = false ∧ rightB n m = true then ((n : Int), (m : Int), y2, false) else (0, 0, ⟨#[]⟩, true) := by
  unfold getB
  simp only [h1, h2]

theorem numB_mod (n k : Nat) (h1 : 1 ≤ k) (h8 : k ≤ 8) : numB n (k : Int) = numB (n % 256 ^ k) (k : Int) := by
  apply ByteArray.ext
  apply Array.ext'
  rw [Pk.numB_list n k h1 h8, Pk.numB_list _ k h1 h8]
  have hg : ∀ (k n : Nat), Pk.nums n k = Pk.nums (n % 256 ^ k) k := by
    intro k
    induction k with
    | zero => intro n; rfl
    | succ k ih =>
      intro n
      have e1 : n % 256 ^ (k + 1) / 256 = n / 256 % 256 ^ k := by
        rw [show (256 : Nat) ^ (k + 1) = 256 * 256 ^ k by rw [Nat.pow_succ, Nat.mul_comm], Nat.mod_mul_right_div_self]
      have e2 : UInt8.ofNat (n % 256 ^ (k + 1)) = UInt8.ofNat n := by
        apply UInt8.toNat_inj.1
        rw [UInt8.toNat_ofNat', UInt8.toNat_ofNat', show (256 : Nat) ^ (k + 1) = 256 * 256 ^ k by rw [Nat.pow_succ, Nat.mul_comm]]
        exact Nat.mod_mul_right_mod n 256 (256 ^ k)
      rw [Pk.nums, Pk.nums, ih (n / 256), e1, e2]
  exact hg k n

theorem low_lt (v : Int) : low v < 256 := by unfold low; omega
theorem putB_low (r v : Int) : putB r v = numB r.toNat 4 ++ numB (low v) 1 := by
  unfold putB low
  have h := numB_mod (v % 18446744073709551616).toNat 1 (by omega) (by omega)
  rw [show ((1 : Nat) : Int) = 1 from rfl] at h
  rw [h]
  congr 2
  omega
theorem putB_size (r v : Int) : (putB r v).size = 5 := by
  unfold putB
  rw [Pk.cat_size]
  have h1 := Pk.numB_size_in r.toNat 4 (by omega) (by omega)
  have h2 := Pk.numB_size_in (v % 18446744073709551616).toNat 1 (by omega) (by omega)
  rw [show ((4 : Nat) : Int) = 4 from rfl] at h1
  rw [show ((1 : Nat) : Int) = 1 from rfl] at h2
  omega

/-- what was put is got, and what stands behind it -/
theorem get_put (r v : Int) (rest : ByteArray) (h0 : 0 ≤ r) (h1 : r ≤ 4294967295) : getB (putB r v ++ rest) false = if rightB r (low v : Int) = true then (r, (low v : Int), rest, false) else (0, 0, ⟨#[]⟩, true) := by
  have e1 : number (putB r v ++ rest) false 4 = (r.toNat, numB (low v) 1 ++ rest, false) := by
    rw [putB_low, ByteArray.append_assoc]
    exact Pk.number_cat r.toNat 4 (numB (low v) 1 ++ rest) (by omega) (by omega) (by omega)
  have e2 : number (numB (low v) 1 ++ rest) false 1 = (low v, rest, false) := Pk.number_cat (low v) 1 rest (by omega) (by omega) (low_lt v)
  rw [getB_of _ _ _ _ _ _ _ _ e1 e2, Int.toNat_of_nonneg h0]
  simp

/-- what is short is none -/
theorem get_short (s : ByteArray) (h : s.size < 5) : getB s false = (0, 0, ⟨#[]⟩, true) := by
  obtain ⟨n, y1, z1, h1⟩ : ∃ n y1 z1, number s false 4 = (n, y1, z1) := ⟨_, _, _, rfl⟩
  obtain ⟨m, y2, z2, h2⟩ : ∃ m y2 z2, number y1 z1 1 = (m, y2, z2) := ⟨_, _, _, rfl⟩
  rw [getB_of _ _ _ _ _ _ _ _ h1 h2]
  have : z2 = true := by
    rw [Pk.number_in _ _ _ ⟨by omega, by omega⟩] at h1
    by_cases c : s.size < 4
    · rw [Pk.next_no _ _ _ (.inr (.inr (by omega)))] at h1
      simp only [Prod.mk.injEq] at h1
      obtain ⟨_, rfl, rfl⟩ := h1
      rw [Pk.number_bad] at h2
      simp only [Prod.mk.injEq] at h2
      exact h2.2.2.symm
    · rw [show (4 : Int) = ((4 : Nat) : Int) from rfl, Pk.next_yes s 4 (by omega)] at h1
      simp only [Prod.mk.injEq] at h1
      obtain ⟨_, rfl, rfl⟩ := h1
      have e : (s.extract 4 s.size).size = s.size - 4 := by
        have : (s.extract 4 s.size).size = min s.size s.size - 4 := ByteArray.size_extract
        omega
      rw [Pk.number_in _ _ _ ⟨by omega, by omega⟩, Pk.next_no _ _ _ (.inr (.inr (by omega)))] at h2
      simp only [Prod.mk.injEq] at h2
      exact h2.2.2.symm
  rw [if_neg (by rw [this]; simp)]

/-! the order -/
theorem order_self (a v : Int) : orderB a v a v = 0 := by unfold orderB; rw [if_pos ⟨rfl, rfl⟩]
theorem order_zero_iff (a v b u : Int) : orderB a v b u = 0 ↔ a = b ∧ v = u := by
  unfold orderB; split
  · rename_i h; exact ⟨fun _ => h, fun _ => rfl⟩
  · rename_i h; split <;> exact ⟨fun e => by omega, fun e => absurd e h⟩
theorem order_pos_iff (a v b u : Int) : 0 < orderB a v b u ↔ b < a ∨ (a = b ∧ u < v) := by
  unfold orderB; split
  · omega
  · split <;> omega
theorem order_neg (a v b u : Int) : orderB b u a v = - orderB a v b u := by
  unfold orderB
  by_cases h : a = b ∧ v = u
  · rw [if_pos h, if_pos ⟨h.1.symm, h.2.symm⟩]; rfl
  · rw [if_neg h, if_neg (by omega)]
    split <;> split <;> omega
theorem order_lo (a v b u : Int) : -1 ≤ orderB a v b u ∧ orderB a v b u ≤ 1 := by
  unfold orderB; split
  · omega
  · split <;> omega
theorem order_trans (a v b u c t : Int) (h1 : orderB a v b u ≤ 0) (h2 : orderB b u c t ≤ 0) : orderB a v c t ≤ 0 := by
  have k1 : ¬ 0 < orderB a v b u := by omega
  have k2 : ¬ 0 < orderB b u c t := by omega
  have k3 : ¬ 0 < orderB a v c t := by
    rw [order_pos_iff] at k1 k2 ⊢
    omega
  omega

/-! digits -/
theorem digits_are : ∀ (u : Nat), ∀ c ∈ Lib.decDigits u, 48 ≤ c.toNat ∧ c.toNat ≤ 57 := by
  intro u
  induction u using Nat.strongRecOn with
  | _ u ih =>
    rw [Lib.decDigits]
    split
    · rename_i h
      intro c hc
      rw [List.mem_singleton.1 hc, UInt8.toNat_ofNat']
      omega
    · rename_i h
      intro c hc
      rcases List.mem_append.1 hc with hc | hc
      · exact ih (u / 10) (by omega) c hc
      · rw [List.mem_singleton.1 hc, UInt8.toNat_ofNat']
        omega
theorem digits_inj : ∀ (u t : Nat), Lib.decDigits u = Lib.decDigits t → u = t := by
  intro u
  induction u using Nat.strongRecOn with
  | _ u ih =>
    intro t h
    rw [Lib.decDigits] at h
    conv at h => rhs; rw [Lib.decDigits]
    have hl : ∀ u, 0 < (Lib.decDigits u).length := by intro u; rw [Lib.decDigits_length]; exact Lib.nDigits_pos u
    split at h
    · split at h
      · have := (List.cons.inj h).1
        have := congrArg UInt8.toNat this
        rw [UInt8.toNat_ofNat', UInt8.toNat_ofNat'] at this
        omega
      · have e := congrArg List.length h
        rw [List.length_append, List.length_singleton, List.length_singleton] at e
        have := hl (t / 10)
        omega
    · split at h
      · have e := congrArg List.length h
        rw [List.length_append, List.length_singleton, List.length_singleton] at e
        have := hl (u / 10)
        omega
      · have h' := List.append_inj' h rfl
        have e1 := ih (u / 10) (by omega) (t / 10) h'.1
        have e2 := congrArg UInt8.toNat (List.cons.inj h'.2).1
        rw [UInt8.toNat_ofNat', UInt8.toNat_ofNat'] at e2
        omega
theorem itoa_inj (a b : Int) (h : Lib.itoa a = Lib.itoa b) : a = b := by
  have hd : ∀ u, ∀ l, Lib.decDigits u ≠ 45 :: l := by
    intro u l e
    have := digits_are u 45 (by rw [e]; simp)
    have e45 : (45 : UInt8).toNat = 45 := rfl
    omega
  unfold Lib.itoa at h
  split at h <;> split at h
  · have := digits_inj _ _ (List.cons.inj h).2
    omega
  · exact absurd h.symm (hd _ _)
  · exact absurd h (hd _ _)
  · have := digits_inj _ _ h
    omega
/-- what stands ahead of the first point is the same, and what stands behind it -/
theorem point_inj : ∀ (l m k n : List UInt8), (∀ c ∈ l, c ≠ 46) → (∀ c ∈ m, c ≠ 46) → l ++ 46 :: k = m ++ 46 :: n → l = m ∧ k = n
  | [], [], k, n, _, _, h => ⟨rfl, (List.cons.inj h).2⟩
  | [], y :: m, k, n, _, hm, h => absurd (List.cons.inj h).1.symm (hm y (by simp))
  | x :: l, [], k, n, hl, _, h => absurd (List.cons.inj h).1 (hl x (by simp))
  | x :: l, y :: m, k, n, hl, hm, h => by
    have h' := List.cons.inj h
    have := point_inj l m k n (fun c hc => hl c (by simp [hc])) (fun c hc => hm c (by simp [hc])) h'.2
    exact ⟨by rw [h'.1, this.1], this.2⟩
theorem digits_ne (u : Nat) : ∀ c ∈ Lib.decDigits u, c ≠ 46 := by
  rintro c hc rfl
  have := digits_are u _ hc
  have e : (46 : UInt8).toNat = 46 := rfl
  omega
theorem text_inj (a v b u : Int) (ha : 0 ≤ a) (hb : 0 ≤ b) (h : textB a v = textB b u) : a = b ∧ v = u := by
  have h1 := congrArg (fun s : ByteArray => s.data.toList) h
  unfold textB at h1
  simp only at h1
  obtain ⟨h2, h3⟩ := point_inj _ _ _ _ (digits_ne _) (digits_ne _) h1
  have := digits_inj _ _ h2
  exact ⟨by omega, itoa_inj _ _ h3⟩
end Go.Proofs.YtkemljpjfbmjgaaDoor.Bl
