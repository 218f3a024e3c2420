/-
  Plain mathematics of chapter 1's checksum: the step on numbers is linear and one to one; what one turned bit, a burst of four bytes, and an exchange of two come to. No condition.
-/
namespace Go.Proofs.Ytgdaphckgckaaaa.Crc

/-- the polynomial -/
def pol : Nat := 2197175160
/-- one bit falls out -/
def stp (c : Nat) : Nat := c / 2 ^^^ (if c % 2 = 1 then pol else 0)
def it : Nat → Nat → Nat
  | 0, c => c
  | k + 1, c => it k (stp c)
def run (c : Nat) (l : List UInt8) : Nat := l.foldl (fun c b => it 8 (c ^^^ b.toNat)) c
def add (s : Nat) (l : List UInt8) : Nat := 4294967295 - run (4294967295 - s) l

theorem xor_div_two (a b : Nat) : (a ^^^ b) / 2 = a / 2 ^^^ b / 2 := by
  have := Nat.shiftRight_xor_distrib (a := a) (b := b) (i := 1)
  simpa [Nat.shiftRight_succ] using this

theorem xor_mod_two (a b : Nat) : (a ^^^ b) % 2 = (a + b) % 2 := by
  have h := Nat.testBit_xor a b 0
  simp only [Nat.testBit_zero] at h
  have h2 : (a ^^^ b) % 2 = 0 ∨ (a ^^^ b) % 2 = 1 := Nat.mod_two_eq_zero_or_one _
  rcases Nat.mod_two_eq_zero_or_one a with ha | ha <;> rcases Nat.mod_two_eq_zero_or_one b with hb | hb <;> rw [ha, hb] at h <;> rcases h2 with h2 | h2 <;> rw [h2] at h <;> first | omega | (exfalso; revert h; decide)

theorem xor_eq_zero {a b : Nat} (h : a ^^^ b = 0) : a = b := by
  have h1 : (a ^^^ b) ^^^ b = 0 ^^^ b := by rw [h]
  rw [Nat.xor_assoc, Nat.xor_self, Nat.xor_zero, Nat.zero_xor] at h1
  exact h1

theorem xor_four (a b x y : Nat) : (a ^^^ b) ^^^ (x ^^^ y) = (a ^^^ x) ^^^ (b ^^^ y) := by
  rw [Nat.xor_assoc, Nat.xor_assoc, ← Nat.xor_assoc b x y, Nat.xor_comm b x, Nat.xor_assoc x b y]

theorem stp_xor (a b : Nat) : stp (a ^^^ b) = stp a ^^^ stp b := by
  unfold stp
  rw [xor_div_two, xor_four]
  congr 1
  have h := xor_mod_two a b
  rcases Nat.mod_two_eq_zero_or_one a with ha | ha <;> rcases Nat.mod_two_eq_zero_or_one b with hb | hb
  · rw [if_neg (by omega), if_neg (by omega), if_neg (by omega)]; rfl
  · rw [if_pos (by omega), if_neg (by omega), if_pos (by omega)]; simp
  · rw [if_pos (by omega), if_pos (by omega), if_neg (by omega)]; simp
  · rw [if_neg (by omega), if_pos (by omega), if_pos (by omega)]; simp

theorem stp_lt {c : Nat} (h : c < 4294967296) : stp c < 4294967296 := by
  unfold stp
  have : (if c % 2 = 1 then pol else 0) < 2 ^ 32 := by split <;> simp [pol]
  exact Nat.xor_lt_two_pow (n := 32) (by omega) this

theorem stp_zero {c : Nat} (h : c < 4294967296) (h0 : stp c = 0) : c = 0 := by
  unfold stp at h0
  replace h0 := xor_eq_zero h0
  split at h0
  · unfold pol at h0; omega
  · omega

theorem it_xor (k a b : Nat) : it k (a ^^^ b) = it k a ^^^ it k b := by
  induction k generalizing a b with
  | zero => rfl
  | succ k ih => simp only [it]; rw [stp_xor, ih]

theorem it_lt (k : Nat) {c : Nat} (h : c < 4294967296) : it k c < 4294967296 := by
  induction k generalizing c with
  | zero => exact h
  | succ k ih => exact ih (stp_lt h)

theorem it_zero (k : Nat) {c : Nat} (h : c < 4294967296) (h0 : it k c = 0) : c = 0 := by
  induction k generalizing c with
  | zero => exact h0
  | succ k ih => exact stp_zero h (ih (stp_lt h) h0)

theorem it_of_zero (k : Nat) : it k 0 = 0 := by
  induction k with
  | zero => rfl
  | succ k ih => exact ih

theorem it_add (j k c : Nat) : it (j + k) c = it k (it j c) := by
  induction j generalizing c with
  | zero => simp [it]
  | succ j ih => rw [Nat.add_right_comm]; exact ih _

theorem stp_double (x : Nat) : stp (2 * x) = x := by
  unfold stp
  rw [if_neg (by omega)]
  simp

theorem it_pow (k x : Nat) : it k (2 ^ k * x) = x := by
  induction k generalizing x with
  | zero => simp [it]
  | succ k ih =>
    simp only [it]
    rw [show 2 ^ (k + 1) * x = 2 * (2 ^ k * x) by rw [Nat.pow_succ]; rw [Nat.mul_comm (2 ^ k) 2, Nat.mul_assoc], stp_double, ih]

/-- a byte behind eight steps is the byte, one place up, ahead of them -/
theorem it8_xor (c b : Nat) : it 8 c ^^^ b = it 8 (c ^^^ 256 * b) := by
  rw [it_xor, it_pow 8 b]

theorem byte_lt (b : UInt8) : b.toNat < 256 := b.toNat_lt

theorem run_lt (l : List UInt8) {c : Nat} (h : c < 4294967296) : run c l < 4294967296 := by
  induction l generalizing c with
  | nil => exact h
  | cons b l ih =>
    refine ih (c := it 8 (c ^^^ b.toNat)) (it_lt 8 (Nat.xor_lt_two_pow (n := 32) h ?_))
    have := byte_lt b; omega

theorem run_append (c : Nat) (l m : List UInt8) : run c (l ++ m) = run (run c l) m := by
  unfold run; exact List.foldl_append

theorem run_snoc (c : Nat) (l : List UInt8) (b : UInt8) : run c (l ++ [b]) = it 8 (run c l ^^^ b.toNat) := by
  rw [run_append]; rfl

theorem add_lt (s : Nat) (l : List UInt8) : add s l < 4294967296 := by unfold add; omega

theorem add_append (s : Nat) (l m : List UInt8) (h : s < 4294967296) : add (add s l) m = add s (l ++ m) := by
  unfold add
  have := run_lt l (c := 4294967295 - s) (by omega)
  rw [run_append, show 4294967295 - (4294967295 - run (4294967295 - s) l) = run (4294967295 - s) l by omega]

theorem add_nil (s : Nat) (h : s < 4294967296) : add s [] = s := by
  show 4294967295 - (4294967295 - s) = s
  omega

/-- the register is linear in what it starts from, and in the text -/
theorem run_xor (l m : List UInt8) (c d : Nat) (h : l.length = m.length) :
    run (c ^^^ d) (List.zipWith (fun a b => a ^^^ b) l m) = run c l ^^^ run d m := by
  induction l generalizing m c d with
  | nil => cases m with
    | nil => rfl
    | cons => simp at h
  | cons a l ih => cases m with
    | nil => simp at h
    | cons b m =>
      simp only [List.zipWith_cons_cons, run, List.foldl_cons]
      have := ih m (it 8 (c ^^^ a.toNat)) (it 8 (d ^^^ b.toNat)) (by simpa using h)
      unfold run at this
      rw [← this, UInt8.toNat_xor, xor_four, it_xor]

theorem run_inj (l : List UInt8) {c d : Nat} (hc : c < 4294967296) (hd : d < 4294967296) (h : run c l = run d l) : c = d := by
  induction l generalizing c d with
  | nil => exact h
  | cons b l ih =>
    have hb := byte_lt b
    have hc' : c ^^^ b.toNat < 4294967296 := Nat.xor_lt_two_pow (n := 32) hc (by omega)
    have hd' : d ^^^ b.toNat < 4294967296 := Nat.xor_lt_two_pow (n := 32) hd (by omega)
    have h1 : it 8 (c ^^^ b.toNat) = it 8 (d ^^^ b.toNat) := ih (it_lt 8 hc') (it_lt 8 hd') h
    have h2 : it 8 ((c ^^^ b.toNat) ^^^ (d ^^^ b.toNat)) = 0 := by rw [it_xor, h1, Nat.xor_self]
    have h3 := it_zero 8 (Nat.xor_lt_two_pow (n := 32) hc' hd') h2
    rw [xor_four, Nat.xor_self, Nat.xor_zero] at h3
    exact xor_eq_zero h3

theorem add_eq_iff (s : Nat) (l m : List UInt8) (h : s < 4294967296) : add s l = add s m ↔ run (4294967295 - s) l = run (4294967295 - s) m := by
  have h1 := run_lt l (c := 4294967295 - s) (by omega)
  have h2 := run_lt m (c := 4294967295 - s) (by omega)
  unfold add
  omega

/-- one byte another one: another register -/
theorem run_set_ne (l : List UInt8) (i : Nat) (v u : UInt8) {c : Nat} (hc : c < 4294967296) (hv : l[i]? = some v) (hu : u ≠ v) : run c (l.set i u) ≠ run c l := by
  intro h
  induction l generalizing i c with
  | nil => simp at hv
  | cons a l ih =>
    have hb := byte_lt a
    have hc' : c ^^^ a.toNat < 4294967296 := Nat.xor_lt_two_pow (n := 32) hc (by omega)
    cases i with
    | zero =>
      simp only [List.getElem?_cons_zero, Option.some.injEq] at hv
      subst hv
      have hb' := byte_lt u
      have hd : c ^^^ u.toNat < 4294967296 := Nat.xor_lt_two_pow (n := 32) hc (by omega)
      have h1 : it 8 (c ^^^ u.toNat) = it 8 (c ^^^ a.toNat) := run_inj l (it_lt 8 hd) (it_lt 8 hc') h
      have h2 : it 8 ((c ^^^ u.toNat) ^^^ (c ^^^ a.toNat)) = 0 := by rw [it_xor, h1, Nat.xor_self]
      have h3 := it_zero 8 (Nat.xor_lt_two_pow (n := 32) hd hc') h2
      rw [xor_four, Nat.xor_self, Nat.zero_xor] at h3
      exact hu (UInt8.toNat_inj.1 (xor_eq_zero h3))
    | succ i => exact ih i (it_lt 8 hc') (by simpa using hv) h

theorem add_set_ne (l : List UInt8) (i : Nat) (v u : UInt8) (hv : l[i]? = some v) (hu : u ≠ v) : add 0 (l.set i u) ≠ add 0 l := by
  rw [ne_eq, add_eq_iff _ _ _ (by omega)]
  exact run_set_ne l i v u (by omega) hv hu

/-- the first k bytes changed -/
def mix (k : Nat) (l m : List UInt8) : List UInt8 := (List.zipWith (fun a b => a ^^^ b) l m).take k ++ l.drop k

theorem mix_length (k : Nat) (l m : List UInt8) (h : l.length = m.length) : (mix k l m).length = l.length := by
  unfold mix
  simp only [List.length_append, List.length_take, List.length_zipWith, List.length_drop]
  omega

theorem mix_zero (l m : List UInt8) : mix 0 l m = l := by simp [mix]

theorem mix_all (l m : List UInt8) (h : l.length = m.length) : mix l.length l m = List.zipWith (fun a b => a ^^^ b) l m := by
  unfold mix
  rw [List.take_of_length_le (by simp [h]), List.drop_of_length_le (Nat.le_refl _), List.append_nil]

theorem mix_at (k : Nat) (l m : List UInt8) (h : l.length = m.length) (hk : k < l.length) : (mix k l m)[k]? = l[k]? := by
  unfold mix
  rw [List.getElem?_append_right (by simp; omega)]
  have : ((List.zipWith (fun a b => a ^^^ b) l m).take k).length = k := by simp; omega
  rw [this, Nat.sub_self, List.getElem?_drop, Nat.add_zero]

theorem mix_set (k : Nat) (l m : List UInt8) (h : l.length = m.length) (hk : k < l.length) (v u : UInt8) (hv : l[k]? = some v) (hu : m[k]? = some u) :
    (mix k l m).set k (v ^^^ u) = mix (k + 1) l m := by
  unfold mix
  have hz : ((List.zipWith (fun a b => a ^^^ b) l m).take k).length = k := by simp; omega
  rw [List.set_append_right _ _ (by omega), hz, Nat.sub_self]
  have h1 : l.drop k = v :: l.drop (k + 1) := by
    rw [List.drop_eq_getElem_cons hk]
    rw [List.getElem?_eq_getElem hk] at hv
    simp at hv
    rw [hv]
  have h2 : (List.zipWith (fun a b => a ^^^ b) l m).take (k + 1) = (List.zipWith (fun a b => a ^^^ b) l m).take k ++ [v ^^^ u] := by
    rw [List.take_add_one, List.getElem?_zipWith, hv, hu]
    rfl
  rw [h1, h2, List.set_cons_zero, List.append_assoc]
  rfl

theorem add_xor (l m d : List UInt8) (hl : l.length = d.length) (hm : m.length = d.length) :
    add 0 (List.zipWith (fun a b => a ^^^ b) l d) ^^^ add 0 (List.zipWith (fun a b => a ^^^ b) m d) = add 0 l ^^^ add 0 m := by
  have key : ∀ l m : List UInt8, l.length = m.length → add 0 l ^^^ add 0 m = run 0 (List.zipWith (fun a b => a ^^^ b) l m) := by
    intro l m h
    have h1 := run_xor l m 4294967295 4294967295 h
    rw [Nat.xor_self] at h1
    rw [h1]
    unfold add
    have hl := run_lt l (c := 4294967295) (by omega)
    have hm := run_lt m (c := 4294967295) (by omega)
    generalize run 4294967295 l = x at *
    generalize run 4294967295 m = y at *
    have e : ∀ c, c < 4294967296 → 4294967295 - c = 4294967295 ^^^ c := by
      intro c hc
      have h : (BitVec.allOnes 32 ^^^ BitVec.ofNat 32 c).toNat = (~~~ (BitVec.ofNat 32 c)).toNat := by rw [BitVec.allOnes_xor]
      rw [BitVec.toNat_xor, BitVec.toNat_not, BitVec.toNat_allOnes, BitVec.toNat_ofNat, Nat.mod_eq_of_lt (by omega)] at h
      exact h.symm
    rw [e x hl, e y hm, xor_four, Nat.xor_self, Nat.zero_xor]
  rw [key _ _ (by simp; omega), key l m (by omega)]
  congr 1
  apply List.ext_getElem
  · simp; omega
  · intro i h1 h2
    simp only [List.getElem_zipWith]
    have hh : ∀ a b c : UInt8, (a ^^^ c) ^^^ (b ^^^ c) = a ^^^ b := by
      intro a b c
      apply UInt8.toNat_inj.1
      simp only [UInt8.toNat_xor]
      rw [xor_four, Nat.xor_self, Nat.xor_zero]
    exact hh _ _ _

/-- two texts that part in the middle alone -/
theorem add_mid (p ys zs q : List UInt8) (h : ys.length = zs.length) :
    add 0 (p ++ (ys ++ q)) = add 0 (p ++ (zs ++ q)) ↔ run 0 (List.zipWith (fun a b => a ^^^ b) ys zs) = 0 := by
  rw [add_eq_iff _ _ _ (by omega), run_append, run_append, run_append, run_append]
  have hr := run_lt p (c := 4294967295 - 0) (by omega)
  generalize run (4294967295 - 0) p = r at *
  have h1 := run_xor ys zs r r h
  rw [Nat.xor_self] at h1
  rw [h1]
  have hy := run_lt ys hr
  have hz := run_lt zs hr
  constructor
  · intro e
    rw [run_inj q hy hz e, Nat.xor_self]
  · intro e
    rw [xor_eq_zero e]

theorem xor_up {b y : Nat} (hb : b < 256) (h : b ^^^ 256 * y = 0) : b = 0 ∧ y = 0 := by
  have := xor_eq_zero h
  omega

theorem run_one (b : UInt8) : run 0 [b] = it 8 b.toNat := by
  show it 8 (0 ^^^ b.toNat) = _
  rw [Nat.zero_xor]

theorem run_two (a b : UInt8) : run 0 [a, b] = it 16 (a.toNat ^^^ 256 * b.toNat) := by
  show it 8 (it 8 (0 ^^^ a.toNat) ^^^ b.toNat) = _
  rw [Nat.zero_xor, it8_xor, ← it_add]

theorem run_four (a b c d : UInt8) : run 0 [a, b, c, d] = it 32 (a.toNat ^^^ 256 * (b.toNat ^^^ 256 * (c.toNat ^^^ 256 * d.toNat))) := by
  show it 8 (it 8 (it 8 (it 8 (0 ^^^ a.toNat) ^^^ b.toNat) ^^^ c.toNat) ^^^ d.toNat) = _
  rw [Nat.zero_xor, it8_xor, Nat.xor_assoc, it8_xor, Nat.xor_assoc, it8_xor, ← it_add, ← it_add, ← it_add]

theorem run_two_zero (a : UInt8) : run 0 [a, a] = 0 ↔ a = 0 := by
  rw [run_two]
  have ha := byte_lt a
  constructor
  · intro h
    have h1 := it_zero 16 (Nat.xor_lt_two_pow (n := 32) (by omega) (by omega)) h
    exact UInt8.toNat_inj.1 (xor_up ha h1).1
  · intro h
    subst h
    exact it_of_zero 16

theorem run_four_zero (a b c d : UInt8) : run 0 [a, b, c, d] = 0 ↔ a.toNat = 0 ∧ b.toNat = 0 ∧ c.toNat = 0 ∧ d.toNat = 0 := by
  rw [run_four]
  have ha := byte_lt a
  have hb := byte_lt b
  have hc := byte_lt c
  have hd := byte_lt d
  constructor
  · intro h
    have h2 : c.toNat ^^^ 256 * d.toNat < 65536 := Nat.xor_lt_two_pow (n := 16) (by omega) (by omega)
    have h3 : b.toNat ^^^ 256 * (c.toNat ^^^ 256 * d.toNat) < 16777216 := Nat.xor_lt_two_pow (n := 24) (by omega) (by omega)
    have h4 := it_zero 32 (Nat.xor_lt_two_pow (n := 32) (by omega) (by omega)) h
    obtain ⟨e1, h5⟩ := xor_up ha h4
    obtain ⟨e2, h6⟩ := xor_up hb h5
    obtain ⟨e3, e4⟩ := xor_up hc h6
    exact ⟨e1, e2, e3, e4⟩
  · rintro ⟨e1, e2, e3, e4⟩
    rw [e1, e2, e3, e4]
    exact it_of_zero 32

theorem xor_back (x b : UInt8) : (x ^^^ b) ^^^ x = b := by
  apply UInt8.toNat_inj.1
  simp only [UInt8.toNat_xor]
  rw [Nat.xor_comm x.toNat, Nat.xor_assoc, Nat.xor_self, Nat.xor_zero]

theorem split_four (l : List UInt8) (k : Nat) (x0 x1 x2 x3 : UInt8) (h0 : l[k]? = some x0) (h1 : l[k + 1]? = some x1) (h2 : l[k + 2]? = some x2) (h3 : l[k + 3]? = some x3) :
    ∃ p q, p.length = k ∧ l = p ++ ([x0, x1, x2, x3] ++ q) := by
  have hk : k + 3 < l.length := by
    rcases Nat.lt_or_ge (k + 3) l.length with h | h
    · exact h
    · rw [List.getElem?_eq_none (by omega)] at h3; cases h3
  refine ⟨l.take k, l.drop (k + 4), by simp; omega, ?_⟩
  have d : ∀ j x, l[j]? = some x → l.drop j = x :: l.drop (j + 1) := by
    intro j x hx
    have hj : j < l.length := by
      rcases Nat.lt_or_ge j l.length with h | h
      · exact h
      · rw [List.getElem?_eq_none h] at hx; cases hx
    rw [List.drop_eq_getElem_cons hj]
    rw [List.getElem?_eq_getElem hj] at hx
    cases hx
    rfl
  conv => lhs; rw [← List.take_append_drop k l, d k x0 h0, d (k + 1) x1 h1, d (k + 2) x2 h2, d (k + 3) x3 h3]
  rfl

/-- four bytes side by side changed -/
theorem add_burst (l : List UInt8) (k : Nat) (x0 x1 x2 x3 b0 b1 b2 b3 : UInt8) (h0 : l[k]? = some x0) (h1 : l[k + 1]? = some x1) (h2 : l[k + 2]? = some x2) (h3 : l[k + 3]? = some x3) :
    add 0 ((((l.set k (x0 ^^^ b0)).set (k + 1) (x1 ^^^ b1)).set (k + 2) (x2 ^^^ b2)).set (k + 3) (x3 ^^^ b3)) = add 0 l ↔ b0.toNat = 0 ∧ b1.toNat = 0 ∧ b2.toNat = 0 ∧ b3.toNat = 0 := by
  obtain ⟨p, q, hp, rfl⟩ := split_four l k x0 x1 x2 x3 h0 h1 h2 h3
  have e : ((((p ++ ([x0, x1, x2, x3] ++ q)).set k (x0 ^^^ b0)).set (k + 1) (x1 ^^^ b1)).set (k + 2) (x2 ^^^ b2)).set (k + 3) (x3 ^^^ b3) = p ++ ([x0 ^^^ b0, x1 ^^^ b1, x2 ^^^ b2, x3 ^^^ b3] ++ q) := by
    subst hp
    rw [List.set_append_right _ _ (by omega), List.set_append_right _ _ (by omega), List.set_append_right _ _ (by omega), List.set_append_right _ _ (by omega)]
    rw [Nat.sub_self, show p.length + 1 - p.length = 1 by omega, show p.length + 2 - p.length = 2 by omega, show p.length + 3 - p.length = 3 by omega]
    rfl
  rw [e, add_mid p [x0 ^^^ b0, x1 ^^^ b1, x2 ^^^ b2, x3 ^^^ b3] [x0, x1, x2, x3] q rfl]
  show run 0 [(x0 ^^^ b0) ^^^ x0, (x1 ^^^ b1) ^^^ x1, (x2 ^^^ b2) ^^^ x2, (x3 ^^^ b3) ^^^ x3] = 0 ↔ _
  rw [xor_back, xor_back, xor_back, xor_back, run_four_zero]

/-- two bytes side by side exchanged -/
theorem add_swap (l : List UInt8) (k : Nat) (x0 x1 x2 x3 : UInt8) (h0 : l[k]? = some x0) (h1 : l[k + 1]? = some x1) (h2 : l[k + 2]? = some x2) (h3 : l[k + 3]? = some x3) :
    add 0 ((l.set k x1).set (k + 1) x0) = add 0 l ↔ x1 = x0 := by
  obtain ⟨p, q, hp, rfl⟩ := split_four l k x0 x1 x2 x3 h0 h1 h2 h3
  have e : ((p ++ ([x0, x1, x2, x3] ++ q)).set k x1).set (k + 1) x0 = p ++ ([x1, x0] ++ ([x2, x3] ++ q)) := by
    subst hp
    rw [List.set_append_right _ _ (by omega), List.set_append_right _ _ (by omega)]
    rw [Nat.sub_self, show p.length + 1 - p.length = 1 by omega]
    rfl
  rw [e, show p ++ ([x0, x1, x2, x3] ++ q) = p ++ ([x0, x1] ++ ([x2, x3] ++ q)) from rfl, add_mid p [x1, x0] [x0, x1] ([x2, x3] ++ q) rfl]
  show run 0 [x1 ^^^ x0, x0 ^^^ x1] = 0 ↔ _
  have c : x0 ^^^ x1 = x1 ^^^ x0 := UInt8.xor_comm _ _
  rw [c, run_two_zero]
  constructor
  · intro h
    have := congrArg UInt8.toNat h
    rw [UInt8.toNat_xor] at this
    exact UInt8.toNat_inj.1 (xor_eq_zero this)
  · intro h
    subst h
    apply UInt8.toNat_inj.1
    rw [UInt8.toNat_xor, Nat.xor_self]
    rfl

/-- j bytes from place k on changed by x's bytes -/
def brst (l : List UInt8) (k x : Nat) : Nat → List UInt8
  | 0 => l
  | j + 1 => (brst l k x j).set (k + j) (l.getD (k + j) 0 ^^^ UInt8.ofNat (x / 2 ^ (8 * j) % 256))

theorem brst_length (l : List UInt8) (k x j : Nat) : (brst l k x j).length = l.length := by
  induction j with
  | zero => rfl
  | succ j ih => simp only [brst, List.length_set]; exact ih

theorem brst_at (l : List UInt8) (k x j i : Nat) (h : k + j ≤ i) : (brst l k x j)[i]? = l[i]? := by
  induction j with
  | zero => rfl
  | succ j ih => simp only [brst]; rw [List.getElem?_set_ne (by omega)]; exact ih (by omega)

theorem add_brst (l : List UInt8) (k x : Nat) (hk : k + 4 ≤ l.length) (hx : x < 4294967296) : add 0 (brst l k x 4) = add 0 l ↔ x = 0 := by
  have g : ∀ j, j < l.length → l[j]? = some (l.getD j 0) := by
    intro j hj
    rw [List.getD_eq_getElem?_getD, List.getElem?_eq_getElem hj]
    rfl
  have h := add_burst l k (l.getD k 0) (l.getD (k + 1) 0) (l.getD (k + 2) 0) (l.getD (k + 3) 0) (UInt8.ofNat (x / 2 ^ (8 * 0) % 256)) (UInt8.ofNat (x / 2 ^ (8 * 1) % 256)) (UInt8.ofNat (x / 2 ^ (8 * 2) % 256)) (UInt8.ofNat (x / 2 ^ (8 * 3) % 256)) (g _ (by omega)) (g _ (by omega)) (g _ (by omega)) (g _ (by omega))
  have e : brst l k x 4 = ((((l.set k (l.getD k 0 ^^^ UInt8.ofNat (x / 2 ^ (8 * 0) % 256))).set (k + 1) (l.getD (k + 1) 0 ^^^ UInt8.ofNat (x / 2 ^ (8 * 1) % 256))).set (k + 2) (l.getD (k + 2) 0 ^^^ UInt8.ofNat (x / 2 ^ (8 * 2) % 256))).set (k + 3) (l.getD (k + 3) 0 ^^^ UInt8.ofNat (x / 2 ^ (8 * 3) % 256))) := rfl
  rw [e, h]
  simp only [UInt8.toNat_ofNat']
  constructor
  · rintro ⟨a, b, c, d⟩
    omega
  · intro h
    subst h
    simp

theorem getD_some (l : List UInt8) (j : Nat) (hj : j < l.length) : l[j]? = some (l.getD j 0) := by
  rw [List.getD_eq_getElem?_getD, List.getElem?_eq_getElem hj]
  rfl

end Go.Proofs.Ytgdaphckgckaaaa.Crc
