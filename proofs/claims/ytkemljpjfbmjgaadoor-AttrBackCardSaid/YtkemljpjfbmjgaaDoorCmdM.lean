/-
  Plain mathematics of commands: right, clash, as bytes, read off bytes, in words. Nothing of the program.
-/
import Derived.Test.YtkemljpjfbmjgaaDoorPackL
import Derived.Lib.ItoaNum
import Derived.Lib.ItoaMem
namespace Go.Proofs.YtkemljpjfbmjgaaDoor.Cm
open Pk (numB number textB text next)

def zeroC (o c s : Int) (k v : ByteArray) : Bool := o == 0 && (c == 0 && (s == 0 && (k.size == 0 && v.size == 0)))
def askC (c s : Int) (k : ByteArray) : Bool := decide (1 ≤ c ∧ c ≤ 64 ∧ 1 ≤ s ∧ 1 ≤ k.size ∧ k.size ≤ 16)
def rightC (o c s : Int) (k v : ByteArray) : Bool := zeroC o c s k v || (decide (1 ≤ o ∧ o ≤ 3 ∧ v.size ≤ 32 ∧ (o = 1 ∨ v.size = 0)) && askC c s k)
def clashC (o c s : Int) (k : ByteArray) (p d t : Int) (l : ByteArray) : Bool := !(o == 0) && (!(p == 0) && (k.toList == l.toList || (c == d && s == t)))
def headC (o c s : Int) : ByteArray := (numB (o % 18446744073709551616).toNat 1 ++ numB (c % 18446744073709551616).toNat 1) ++ numB s.toNat 4
def bytesC (o c s : Int) (k v : ByteArray) : ByteArray × Bool :=
  if rightC o c s k v = true then ((headC o c s ++ (textB k).1) ++ (textB v).1, true) else (⟨#[]⟩, false)
/-- what is read: the command, the rest, is it bad -/
def readC (s : ByteArray) (b : Bool) : Int × Int × Int × ByteArray × ByteArray × ByteArray × Bool :=
  let n1 := number s b 1
  let n2 := number n1.2.1 n1.2.2 1
  let n3 := number n2.2.1 n2.2.2 4
  let t4 := text n3.2.1 n3.2.2
  let t5 := text t4.2.1 t4.2.2
  if t5.2.2 = false ∧ rightC n1.1 n2.1 n3.1 t4.1 t5.1 = true then (n1.1, n2.1, n3.1, t4.1, t5.1, t5.2.1, false) else (0, 0, 0, ⟨#[]⟩, ⟨#[]⟩, ⟨#[]⟩, true)
/-- the word of an op -/
def wordC (o : Int) : ByteArray := if o = 1 then ⟨#[112, 117, 116]⟩ else if o = 2 then ⟨#[103, 101, 116]⟩ else if o = 3 then ⟨#[100, 101, 108]⟩ else ⟨#[63]⟩
def leadC (o c s : Int) (k : ByteArray) : ByteArray :=
  (((((wordC o ++ ⟨#[32]⟩) ++ ⟨(Lib.itoa c).toArray⟩) ++ ⟨#[46]⟩) ++ ⟨(Lib.decDigits s.toNat).toArray⟩) ++ ⟨#[32]⟩) ++ k
def textC (o c s : Int) (k v : ByteArray) : ByteArray :=
  if o = 0 then ⟨#[45]⟩ else if o = 1 then leadC o c s k ++ ((⟨#[61]⟩ : ByteArray) ++ v) else leadC o c s k

theorem size0 (s : ByteArray) (h : s.size = 0) : s = ⟨#[]⟩ := ByteArray.ext (Array.eq_empty_of_size_eq_zero h)
theorem zeroC_iff (o c s : Int) (k v : ByteArray) : zeroC o c s k v = true ↔ o = 0 ∧ c = 0 ∧ s = 0 ∧ k = ⟨#[]⟩ ∧ v = ⟨#[]⟩ := by
  simp only [zeroC, Bool.and_eq_true, beq_iff_eq]
  constructor
  · rintro ⟨h1, h2, h3, h4, h5⟩
    exact ⟨h1, h2, h3, size0 _ h4, size0 _ h5⟩
  · rintro ⟨h1, h2, h3, rfl, rfl⟩
    exact ⟨h1, h2, h3, rfl, rfl⟩
theorem askC_iff (c s : Int) (k : ByteArray) : askC c s k = true ↔ 1 ≤ c ∧ c ≤ 64 ∧ 1 ≤ s ∧ 1 ≤ k.size ∧ k.size ≤ 16 := by simp [askC]
theorem rightC_iff (o c s : Int) (k v : ByteArray) : rightC o c s k v = true ↔ (o = 0 ∧ c = 0 ∧ s = 0 ∧ k = ⟨#[]⟩ ∧ v = ⟨#[]⟩) ∨ (1 ≤ o ∧ o ≤ 3 ∧ 1 ≤ c ∧ c ≤ 64 ∧ 1 ≤ s ∧ 1 ≤ k.size ∧ k.size ≤ 16 ∧ v.size ≤ 32 ∧ (o = 1 ∨ v.size = 0)) := by
  unfold rightC
  rw [Bool.or_eq_true, Bool.and_eq_true, zeroC_iff, askC_iff, decide_eq_true_eq]
  constructor
  · rintro (h | h)
    · exact .inl h
    · right; omega
  · rintro (h | h)
    · exact .inl h
    · right; omega
/-- a command that is right is short -/
theorem right_size {o c s : Int} {k v : ByteArray} (h : rightC o c s k v = true) : k.size ≤ 16 ∧ v.size ≤ 32 := by
  rcases (rightC_iff _ _ _ _ _).1 h with ⟨_, _, _, rfl, rfl⟩ | h
  · exact ⟨Nat.zero_le _, Nat.zero_le _⟩
  · omega

theorem bytesC_way (o c s : Int) (k v x : ByteArray) (ok : Bool) (h : bytesC o c s k v = (x, ok)) :
    (rightC o c s k v = true ∧ ok = true ∧ (headC o c s ++ (textB k).1) ++ (textB v).1 = x) ∨ (rightC o c s k v = false ∧ ok = false ∧ x = ⟨#[]⟩) := by
  unfold bytesC at h
  cases hr : rightC o c s k v
  · rw [hr, if_neg (by simp)] at h
    simp only [Prod.mk.injEq] at h
    exact .inr ⟨rfl, h.2.symm, h.1.symm⟩
  · rw [hr, if_pos rfl] at h
    simp only [Prod.mk.injEq] at h
    exact .inl ⟨rfl, h.2.symm, h.1⟩

theorem headC_size (o c s : Int) : (headC o c s).size = 6 := by
  unfold headC
  rw [Pk.cat_size, Pk.cat_size]
  have h1 := Pk.numB_size_in (o % 18446744073709551616).toNat 1 (by omega) (by omega)
  have h2 := Pk.numB_size_in (c % 18446744073709551616).toNat 1 (by omega) (by omega)
  have h3 := Pk.numB_size_in s.toNat 4 (by omega) (by omega)
  simp only [Int.cast_ofNat_Int] at h1 h2 h3
  rw [h1, h2, h3]
theorem textB_short (k : ByteArray) (h : k.size ≤ 65535) : textB k = (numB k.size 2 ++ k, true) := by unfold textB; rw [if_pos h]
theorem textB_size (k : ByteArray) (h : k.size ≤ 65535) : (textB k).1.size = 2 + k.size := by
  rw [textB_short k h]
  show (numB k.size 2 ++ k).size = _
  rw [Pk.cat_size]
  have h1 := Pk.numB_size_in k.size 2 (by omega) (by omega)
  simp only [Int.cast_ofNat_Int] at h1
  rw [h1]
/-- how many bytes there are -/
theorem bytesC_size (o c s : Int) (k v x : ByteArray) (h : bytesC o c s k v = (x, true)) : x.size = 10 + k.size + v.size ∧ k.size ≤ 16 ∧ v.size ≤ 32 := by
  rcases bytesC_way _ _ _ _ _ _ _ h with ⟨hr, _, e⟩ | ⟨_, h2, _⟩
  · obtain ⟨z1, z2⟩ := right_size hr
    rw [← e, Pk.cat_size, Pk.cat_size, headC_size, textB_size _ (by omega), textB_size _ (by omega)]
    omega
  · cases h2

theorem readC_of (s : ByteArray) (b : Bool) (n1 n2 n3 : Nat) (y1 y2 y3 y4 y5 x4 x5 : ByteArray) (z1 z2 z3 z4 z5 : Bool) (h1 : number s b 1 = (n1, y1, z1)) (h2 : number y1 z1 1 = (n2, y2, z2)) (h3 : number y2 z2 4 = (n3, y3, z3))
    (h4 : text y3 z3 = (x4, y4, z4)) (h5 : text y4 z4 = (x5, y5, z5)) :
    readC s b = if z5 = false ∧ rightC n1 n2 n3 x4 x5 = true then ((n1 : Int), (n2 : Int), (n3 : Int), x4, x5, y5, false) else (0, 0, 0, ⟨#[]⟩, ⟨#[]⟩, ⟨#[]⟩, true) := by
  unfold readC
  simp only [h1, h2, h3, h4, h5]

/-- what Read comes by, and what it answers -/
theorem read_way (s : ByteArray) (b : Bool) (o c q : Int) (k v t : ByteArray) (d : Bool) (h : readC s b = (o, c, q, k, v, t, d)) :
    ∃ (n1 n2 n3 : Nat) (y1 y2 y3 y4 y5 x4 x5 : ByteArray) (z1 z2 z3 z4 z5 p : Bool), number s b 1 = (n1, y1, z1) ∧ number y1 z1 1 = (n2, y2, z2) ∧ number y2 z2 4 = (n3, y3, z3) ∧ text y3 z3 = (x4, y4, z4) ∧ text y4 z4 = (x5, y5, z5) ∧
      n1 < 256 ∧ n2 < 256 ∧ n3 < 4294967296 ∧ y1.size ≤ s.size ∧ y2.size ≤ s.size ∧ y3.size ≤ s.size ∧ y4.size ≤ s.size ∧ y5.size ≤ s.size ∧ rightC n1 n2 n3 x4 x5 = p ∧
      ((z5 = false ∧ p = true ∧ o = n1 ∧ c = n2 ∧ q = n3 ∧ k = x4 ∧ v = x5 ∧ t = y5 ∧ d = false) ∨ ((z5 = true ∨ (z5 = false ∧ p = false)) ∧ o = 0 ∧ c = 0 ∧ q = 0 ∧ k = ⟨#[]⟩ ∧ v = ⟨#[]⟩ ∧ t = ⟨#[]⟩ ∧ d = true)) := by
  obtain ⟨n1, y1, z1, h1⟩ : ∃ n y z, number s b 1 = (n, y, z) := ⟨_, _, _, rfl⟩
  obtain ⟨n2, y2, z2, h2⟩ : ∃ n y z, number y1 z1 1 = (n, y, z) := ⟨_, _, _, rfl⟩
  obtain ⟨n3, y3, z3, h3⟩ : ∃ n y z, number y2 z2 4 = (n, y, z) := ⟨_, _, _, rfl⟩
  obtain ⟨x4, y4, z4, h4⟩ : ∃ n y z, text y3 z3 = (n, y, z) := ⟨_, _, _, rfl⟩
  obtain ⟨x5, y5, z5, h5⟩ : ∃ n y z, text y4 z4 = (n, y, z) := ⟨_, _, _, rfl⟩
  have l1 := Pk.number_lt s b 1
  have l2 := Pk.number_lt y1 z1 1
  have l3 := Pk.number_lt y2 z2 4
  have k1 := Pk.number_size s b 1
  have k2 := Pk.number_size y1 z1 1
  have k3 := Pk.number_size y2 z2 4
  have k4 := Pk.text_size y3 z3
  have k5 := Pk.text_size y4 z4
  rw [show ((1 : Nat) : Int) = 1 from rfl, h1] at l1
  rw [show ((1 : Nat) : Int) = 1 from rfl, h2] at l2
  rw [show ((4 : Nat) : Int) = 4 from rfl, h3] at l3
  rw [h1] at k1
  rw [h2] at k2
  rw [h3] at k3
  rw [h4] at k4
  rw [h5] at k5
  simp only at l1 l2 l3 k1 k2 k3 k4 k5
  rw [readC_of _ _ _ _ _ _ _ _ _ _ _ _ _ _ _ _ _ h1 h2 h3 h4 h5] at h
  refine ⟨n1, n2, n3, y1, y2, y3, y4, y5, x4, x5, z1, z2, z3, z4, z5, _, h1, h2, h3, h4, h5, by omega, by omega, by omega, by omega, by omega, by omega, by omega, by omega, rfl, ?_⟩
  by_cases hc : z5 = false ∧ rightC n1 n2 n3 x4 x5 = true
  · rw [if_pos hc] at h
    simp only [Prod.mk.injEq] at h
    exact .inl ⟨hc.1, hc.2, h.1.symm, h.2.1.symm, h.2.2.1.symm, h.2.2.2.1.symm, h.2.2.2.2.1.symm, h.2.2.2.2.2.1.symm, h.2.2.2.2.2.2.symm⟩
  · rw [if_neg hc] at h
    simp only [Prod.mk.injEq] at h
    refine .inr ⟨?_, h.1.symm, h.2.1.symm, h.2.2.1.symm, h.2.2.2.1.symm, h.2.2.2.2.1.symm, h.2.2.2.2.2.1.symm, h.2.2.2.2.2.2.symm⟩
    cases z5
    · right
      refine ⟨rfl, ?_⟩
      cases hp : rightC n1 n2 n3 x4 x5
      · rfl
      · exact absurd ⟨rfl, hp⟩ hc
    · exact .inl rfl

/-- what is read, read with more behind it -/
theorem next_more (s t : ByteArray) (m : Int) (x y : ByteArray) (h : next s false m = (x, y, false)) : next (s ++ t) false m = (x, y ++ t, false) := by
  rcases Pk.next_ways s false m with ⟨n, _, rfl, hn⟩ | hn
  · rw [Pk.next_yes s n hn] at h
    simp only [Prod.mk.injEq, and_true] at h
    obtain ⟨rfl, rfl⟩ := h
    have hs : s = s.extract 0 n ++ s.extract n s.size := by
      rw [ByteArray.extract_append_extract]
      simp [Nat.min_eq_left, Nat.max_eq_right hn]
    have hz : (s.extract 0 n).size = n := by rw [Pk.size_extract0]; omega
    conv => lhs; rw [hs, ByteArray.append_assoc]
    exact Pk.next_cat' _ _ _ (by rw [hz])
  · rw [Pk.next_no s false m hn] at h
    simp at h
theorem number_more (s t : ByteArray) (k : Int) (n : Nat) (y : ByteArray) (h : number s false k = (n, y, false)) : number (s ++ t) false k = (n, y ++ t, false) := by
  by_cases hk : 1 ≤ k ∧ k ≤ 8
  · rw [Pk.number_in _ _ _ hk] at h ⊢
    obtain ⟨x, y', z, e⟩ : ∃ x y z, next s false k = (x, y, z) := ⟨_, _, _, rfl⟩
    rw [e] at h
    simp only [Prod.mk.injEq] at h
    obtain ⟨h1, rfl, rfl⟩ := h
    rw [next_more s t k x y' e, ← h1]
  · rw [Pk.number_out _ _ _ hk] at h
    simp at h
theorem number_good (s : ByteArray) (b : Bool) (k : Int) (n : Nat) (y : ByteArray) (h : number s b k = (n, y, false)) : b = false := by
  cases b
  · rfl
  · rw [Pk.number_bad] at h; simp at h
theorem text_good (s : ByteArray) (b : Bool) (x y : ByteArray) (h : text s b = (x, y, false)) : b = false := by
  cases b
  · rfl
  · rw [Pk.text_bad] at h; simp at h
theorem text_more (s t : ByteArray) (x y : ByteArray) (h : text s false = (x, y, false)) : text (s ++ t) false = (x, y ++ t, false) := by
  unfold text at h ⊢
  obtain ⟨n, y1, z, e⟩ : ∃ n y z, number s false 2 = (n, y, z) := ⟨_, _, _, rfl⟩
  rw [e] at h
  simp only at h
  cases z
  · rw [number_more s t 2 n y1 e]
    exact next_more _ _ _ _ _ h
  · rw [Pk.next_bad] at h; simp at h
theorem readC_more (s t : ByteArray) (o c q : Int) (k v r : ByteArray) (h : readC s false = (o, c, q, k, v, r, false)) : readC (s ++ t) false = (o, c, q, k, v, r ++ t, false) := by
  obtain ⟨n1, n2, n3, y1, y2, y3, y4, y5, x4, x5, z1, z2, z3, z4, z5, p, h1, h2, h3, h4, h5, -, -, -, -, -, -, -, -, hp, hw⟩ := read_way _ _ _ _ _ _ _ _ _ h
  rcases hw with ⟨rfl, rfl, rfl, rfl, rfl, rfl, rfl, rfl, _⟩ | ⟨_, _, _, _, _, _, _, hd⟩
  · obtain rfl := text_good _ _ _ _ h5
    obtain rfl := text_good _ _ _ _ h4
    obtain rfl := number_good _ _ _ _ _ h3
    obtain rfl := number_good _ _ _ _ _ h2
    rw [readC_of _ _ _ _ _ _ _ _ _ _ _ _ _ _ _ _ _ (number_more _ t _ _ _ h1) (number_more _ t _ _ _ h2) (number_more _ t _ _ _ h3) (text_more _ t _ _ h4) (text_more _ t _ _ h5), if_pos ⟨rfl, hp⟩]
  · cases hd
/-- what was put is read -/
theorem readC_put (o c q : Int) (k v x : ByteArray) (q1 : q ≤ 4294967295) (h : bytesC o c q k v = (x, true)) : readC x false = (o, c, q, k, v, ⟨#[]⟩, false) := by
  rcases bytesC_way _ _ _ _ _ _ _ h with ⟨hr, _, e⟩ | ⟨_, h2, _⟩
  · obtain ⟨z1, z2⟩ := right_size hr
    have hb : 0 ≤ o ∧ o ≤ 3 ∧ 0 ≤ c ∧ c ≤ 64 ∧ 0 ≤ q := by
      rcases (rightC_iff _ _ _ _ _).1 hr with ⟨rfl, rfl, rfl, _, _⟩ | h <;> omega
    have e1 : (((o % 18446744073709551616).toNat : Nat) : Int) = o := by omega
    have e2 : (((c % 18446744073709551616).toNat : Nat) : Int) = c := by omega
    have e3 : ((q.toNat : Nat) : Int) = q := by omega
    rw [textB_short k (by omega), textB_short v (by omega)] at e
    unfold headC at e
    have l1 : (o % 18446744073709551616).toNat < 256 ^ 1 := by omega
    have l2 : (c % 18446744073709551616).toNat < 256 ^ 1 := by omega
    have l3 : q.toNat < 256 ^ 4 := by omega
    generalize (o % 18446744073709551616).toNat = n1 at *
    generalize (c % 18446744073709551616).toNat = n2 at *
    generalize q.toNat = n3 at *
    subst e1 e2 e3
    have ea : x = numB n1 1 ++ (numB n2 1 ++ (numB n3 4 ++ (numB k.size 2 ++ (k ++ (numB v.size 2 ++ (v ++ ⟨#[]⟩)))))) := by
      rw [← e]
      simp only [ByteArray.append_assoc]
      congr 7
      exact (ByteArray.append_empty).symm
    have g1 : ∀ t, number (numB n1 1 ++ t) false 1 = (n1, t, false) := fun t => Pk.number_cat n1 1 t (by omega) (by omega) l1
    have g2 : ∀ t, number (numB n2 1 ++ t) false 1 = (n2, t, false) := fun t => Pk.number_cat n2 1 t (by omega) (by omega) l2
    have g3 : ∀ t, number (numB n3 4 ++ t) false 4 = (n3, t, false) := fun t => Pk.number_cat n3 4 t (by omega) (by omega) l3
    rw [ea, readC_of _ _ _ _ _ _ _ _ _ _ _ _ _ _ _ _ _ (g1 _) (g2 _) (g3 _) (Pk.text_cat k _ (by omega)) (Pk.text_cat v _ (by omega)), if_pos ⟨rfl, hr⟩]
  · cases h2
/-- .. with what stands behind it -/
theorem readC_back (o c q : Int) (k v x t : ByteArray) (q1 : q ≤ 4294967295) (h : bytesC o c q k v = (x, true)) : readC (x ++ t) false = (o, c, q, k, v, t, false) := by
  rw [readC_more _ t _ _ _ _ _ _ (readC_put o c q k v x q1 h), show (⟨#[]⟩ : ByteArray) ++ t = t from ByteArray.empty_append]
/-- .. cut it is none -/
theorem readC_cut (o c q : Int) (k v x : ByteArray) (q1 : q ≤ 4294967295) (h : bytesC o c q k v = (x, true)) (m : Nat) (hm : m < x.size) : (readC (x.extract 0 m) false).2.2.2.2.2.2 = true := by
  obtain ⟨o', c', s', k', v', r, d, e⟩ : ∃ o c s k v r d, readC (x.extract 0 m) false = (o, c, s, k, v, r, d) := ⟨_, _, _, _, _, _, _, rfl⟩
  rw [e]
  cases d
  · have h1 := readC_more _ (x.extract m x.size) _ _ _ _ _ _ e
    rw [ByteArray.extract_append_extract, show min 0 m = 0 by omega, show max m x.size = x.size by omega, ByteArray.extract_zero_size, readC_put o c q k v x q1 h] at h1
    simp only [Prod.mk.injEq] at h1
    have h2 := congrArg ByteArray.size h1.2.2.2.2.2.1
    rw [Pk.cat_size, ByteArray.size_extract] at h2
    have : (⟨#[]⟩ : ByteArray).size = 0 := rfl
    omega
  · rfl
/-- two that are right have the same bytes just if they are the same -/
theorem bytesC_inj (o c q : Int) (k v x : ByteArray) (o' c' q' : Int) (k' v' : ByteArray) (q1 : q ≤ 4294967295) (q1' : q' ≤ 4294967295) (h : bytesC o c q k v = (x, true)) (h' : bytesC o' c' q' k' v' = (x, true)) :
    o = o' ∧ c = c' ∧ q = q' ∧ k = k' ∧ v = v' := by
  have h1 := readC_put _ _ _ _ _ _ q1 h
  rw [readC_put _ _ _ _ _ _ q1' h'] at h1
  simp only [Prod.mk.injEq] at h1
  exact ⟨h1.1.symm, h1.2.1.symm, h1.2.2.1.symm, h1.2.2.2.1.symm, h1.2.2.2.2.1.symm⟩
end Go.Proofs.YtkemljpjfbmjgaaDoor.Cm
