/-
  Plain mathematics: numbers as bytes, the lowest first, and the reader that reads them. Nothing of the program.
-/
namespace Go.Proofs.YtkemljpjfbmjgaaDoor.Pk

/-- the lowest k bytes of n, the lowest first -/
def nums (n : Nat) : Nat → List UInt8
  | 0 => []
  | k + 1 => UInt8.ofNat n :: nums (n / 256) k

/-- the number of these bytes -/
def val : List UInt8 → Nat
  | [] => 0
  | b :: l => b.toNat + 256 * val l

theorem nums_length (k : Nat) : ∀ n, (nums n k).length = k := by
  induction k with
  | zero => intro n; rfl
  | succ k ih => intro n; simp [nums, ih]

theorem nums_snoc (k : Nat) : ∀ n, nums n (k + 1) = nums n k ++ [UInt8.ofNat (n / 256 ^ k)] := by
  induction k with
  | zero => intro n; simp [nums]
  | succ k ih =>
    intro n
    rw [nums, ih (n / 256), nums, List.cons_append, Nat.div_div_eq_div_mul, Nat.pow_succ, Nat.mul_comm]

theorem nums_take (k : Nat) : ∀ n j, j ≤ k → (nums n k).take j = nums n j := by
  induction k with
  | zero => intro n j h; obtain rfl : j = 0 := by omega
            rfl
  | succ k ih =>
    intro n j h
    cases j with
    | zero => rfl
    | succ j => simp only [nums, List.take_succ_cons]; rw [ih _ _ (by omega)]

theorem val_nums (k : Nat) : ∀ n, val (nums n k) = n % 256 ^ k := by
  induction k with
  | zero => intro n; simp [nums, val, Nat.mod_one]
  | succ k ih =>
    intro n
    simp only [nums, val, ih]
    rw [UInt8.toNat_ofNat', show (256 : Nat) ^ (k + 1) = 256 * 256 ^ k by rw [Nat.pow_succ, Nat.mul_comm], Nat.mod_mul]

theorem val_lt (l : List UInt8) : val l < 256 ^ l.length := by
  induction l with
  | nil => simp [val]
  | cons b l ih =>
    have := b.toNat_lt
    rw [val, List.length_cons, Nat.pow_succ]
    omega

theorem nums_val (l : List UInt8) : nums (val l) l.length = l := by
  induction l with
  | nil => rfl
  | cons b l ih =>
    have hb := b.toNat_lt
    have h1 : (b.toNat + 256 * val l) / 256 = val l := by omega
    have h2 : UInt8.ofNat (b.toNat + 256 * val l) = b := by
      apply UInt8.toNat_inj.1
      rw [UInt8.toNat_ofNat']
      omega
    rw [val, List.length_cons, nums, h1, ih, h2]

theorem val_snoc (l : List UInt8) (b : UInt8) : val (l ++ [b]) = val l + b.toNat * 256 ^ l.length := by
  induction l with
  | nil => simp [val]
  | cons c l ih =>
    have e : b.toNat * (256 ^ l.length * 256) = 256 * (b.toNat * 256 ^ l.length) := by
      rw [Nat.mul_comm (256 ^ l.length), ← Nat.mul_assoc, Nat.mul_comm b.toNat, Nat.mul_assoc]
    rw [List.cons_append, val, ih, val, List.length_cons, Nat.pow_succ, e]
    omega

theorem nums_inj (k a b : Nat) (ha : a < 256 ^ k) (hb : b < 256 ^ k) : nums a k = nums b k ↔ a = b := by
  constructor
  · intro h
    have h1 := congrArg val h
    rw [val_nums, val_nums, Nat.mod_eq_of_lt ha, Nat.mod_eq_of_lt hb] at h1
    exact h1
  · intro h; rw [h]

theorem pow8 (k : Nat) : (256 : Nat) ^ k = 2 ^ (8 * k) := by
  rw [Nat.pow_mul]

/-- Number's text -/
def numB (n : Nat) (k : Int) : ByteArray := if 1 ≤ k ∧ k ≤ 8 then ⟨(nums n k.toNat).toArray⟩ else ⟨#[]⟩
theorem numB_in (n j : Nat) (h1 : 1 ≤ j) (h8 : j ≤ 8) : numB n (j : Int) = ⟨(nums n j).toArray⟩ := by
  unfold numB; rw [if_pos ⟨by omega, by omega⟩]; rfl
theorem numB_out (n : Nat) (k : Int) (h : ¬(1 ≤ k ∧ k ≤ 8)) : numB n k = ⟨#[]⟩ := by
  unfold numB; rw [if_neg h]
theorem numB_size (n : Nat) (k : Int) : (numB n k).size ≤ 8 := by
  unfold numB
  split
  · rename_i h
    show (nums n k.toNat).toArray.size ≤ 8
    rw [List.size_toArray, nums_length]; omega
  · exact Nat.zero_le _

/-- Text's text -/
def textB (s : ByteArray) : ByteArray × Bool := if s.size ≤ 65535 then (numB s.size 2 ++ s, true) else (⟨#[]⟩, false)

/-- Flag's text -/
def flagB (b : Bool) : ByteArray := ⟨#[if b then 1 else 0]⟩

/-- what is read: many bytes -/
def next (s : ByteArray) (b : Bool) (m : Int) : ByteArray × ByteArray × Bool :=
  if b = false ∧ 0 ≤ m ∧ m ≤ s.size then (s.extract 0 m.toNat, s.extract m.toNat s.size, false) else (⟨#[]⟩, ⟨#[]⟩, true)

/-- .. a number -/
def number (s : ByteArray) (b : Bool) (k : Int) : Nat × ByteArray × Bool :=
  if 1 ≤ k ∧ k ≤ 8 then (val (next s b k).1.data.toList, (next s b k).2) else (0, ⟨#[]⟩, true)

/-- .. a text -/
def text (s : ByteArray) (b : Bool) : ByteArray × ByteArray × Bool := next (number s b 2).2.1 (number s b 2).2.2 (number s b 2).1

/-- .. a flag -/
def flag (s : ByteArray) (b : Bool) : Bool × ByteArray × Bool :=
  if (number s b 1).2.2 = true ∨ 1 < (number s b 1).1 then (false, ⟨#[]⟩, true) else ((number s b 1).1 == 1, (number s b 1).2)

def done (s : ByteArray) (b : Bool) : Bool := s.toList.isEmpty && !b

theorem next_yes (s : ByteArray) (m : Nat) (h : m ≤ s.size) : next s false (m : Int) = (s.extract 0 m, s.extract m s.size, false) := by
  unfold next; rw [if_pos ⟨rfl, by omega, by omega⟩]; rfl
theorem next_no (s : ByteArray) (b : Bool) (m : Int) (h : b = true ∨ m < 0 ∨ (s.size : Int) < m) : next s b m = (⟨#[]⟩, ⟨#[]⟩, true) := by
  unfold next
  rw [if_neg]
  rintro ⟨h1, h2, h3⟩
  rcases h with h | h | h
  · rw [h1] at h; cases h
  · omega
  · omega
/-- of two ways one -/
theorem next_ways (s : ByteArray) (b : Bool) (m : Int) : (∃ n : Nat, b = false ∧ m = n ∧ n ≤ s.size) ∨ (b = true ∨ m < 0 ∨ (s.size : Int) < m) := by
  cases b
  · by_cases h0 : m < 0
    · exact .inr (.inr (.inl h0))
    · by_cases h1 : (s.size : Int) < m
      · exact .inr (.inr (.inr h1))
      · exact .inl ⟨m.toNat, rfl, by omega, by omega⟩
  · exact .inr (.inl rfl)

theorem next_size (s : ByteArray) (b : Bool) (m : Int) : (next s b m).1.size ≤ s.size ∧ (next s b m).2.1.size ≤ s.size := by
  rcases next_ways s b m with ⟨n, rfl, rfl, h⟩ | h
  · rw [next_yes s n h]; simp only [ByteArray.size_extract]; omega
  · rw [next_no s b m h]; exact ⟨Nat.zero_le _, Nat.zero_le _⟩

theorem number_in (s : ByteArray) (b : Bool) (k : Int) (h : 1 ≤ k ∧ k ≤ 8) : number s b k = (val (next s b k).1.data.toList, (next s b k).2) := by
  unfold number; rw [if_pos h]
theorem number_out (s : ByteArray) (b : Bool) (k : Int) (h : ¬(1 ≤ k ∧ k ≤ 8)) : number s b k = (0, ⟨#[]⟩, true) := by
  unfold number; rw [if_neg h]
theorem number_size (s : ByteArray) (b : Bool) (k : Int) : (number s b k).2.1.size ≤ s.size := by
  unfold number
  split
  · exact (next_size s b k).2
  · exact Nat.zero_le _
/-- a number that is read has as many bytes at most as were asked -/
theorem next_len (s : ByteArray) (b : Bool) (n : Nat) : (next s b n).1.data.toList.length ≤ n := by
  rcases next_ways s b n with ⟨m, rfl, hm, h⟩ | h
  · obtain rfl : n = m := by omega
    rw [next_yes s n h]
    have hs : (s.extract 0 n).size = min n s.size - 0 := ByteArray.size_extract
    have e : (s.extract 0 n).data.toList.length = (s.extract 0 n).size := by rw [Array.length_toList]; rfl
    show (s.extract 0 n).data.toList.length ≤ n
    omega
  · rw [next_no s b n h]; exact Nat.zero_le _
theorem number_lt (s : ByteArray) (b : Bool) (k : Nat) : (number s b k).1 < 256 ^ k := by
  unfold number
  split
  · refine Nat.lt_of_lt_of_le (val_lt _) (Nat.pow_le_pow_right (by omega) (next_len s b k))
  · exact Nat.pow_pos (by omega)
theorem number_u64 (s : ByteArray) (b : Bool) (k : Int) : (number s b k).1 < 18446744073709551616 := by
  by_cases h : 1 ≤ k ∧ k ≤ 8
  · obtain ⟨n, rfl⟩ := Int.eq_ofNat_of_zero_le (show 0 ≤ k by omega)
    refine Nat.lt_of_lt_of_le (number_lt s b n) ?_
    exact Nat.pow_le_pow_right (by omega) (show n ≤ 8 by omega)
  · rw [number_out s b k h]; omega

/-- a reader that is bad stays so -/
theorem next_bad (s : ByteArray) (m : Int) : next s true m = (⟨#[]⟩, ⟨#[]⟩, true) := next_no s true m (.inl rfl)
theorem number_bad (s : ByteArray) (k : Int) : number s true k = (0, ⟨#[]⟩, true) := by
  unfold number
  split
  · rw [next_bad]; rfl
  · rfl
theorem text_bad (s : ByteArray) : text s true = (⟨#[]⟩, ⟨#[]⟩, true) := by
  unfold text; rw [number_bad]; exact next_bad _ _
theorem flag_bad (s : ByteArray) : flag s true = (false, ⟨#[]⟩, true) := by
  unfold flag; rw [number_bad]; rfl
end Go.Proofs.YtkemljpjfbmjgaaDoor.Pk
