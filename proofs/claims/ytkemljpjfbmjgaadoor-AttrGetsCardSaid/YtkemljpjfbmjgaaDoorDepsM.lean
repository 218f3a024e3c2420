/-
  Plain mathematics of sets of pairs: the order, what is a set, what is in it, one more, both, less. Nothing of the program.
-/
import Derived.Test.YtkemljpjfbmjgaaDoorPackL
namespace Go.Proofs.YtkemljpjfbmjgaaDoor.Dp

abbrev ID := Int × Int
def rightD (p : ID) : Bool := decide (1 ≤ p.1 ∧ p.1 ≤ 7 ∧ 1 ≤ p.2 ∧ p.2 ≤ 16777215)
def Lt (a b : ID) : Prop := a.1 < b.1 ∨ (a.1 = b.1 ∧ a.2 < b.2)
instance (a b : ID) : Decidable (Lt a b) := by unfold Lt; infer_instance
def orderD (a b : ID) : Int := if Lt a b then -1 else if a = b then 0 else 1
/-- it rises, and each is right -/
def setD : List ID → Bool
  | [] => true
  | [a] => rightD a
  | a :: b :: l => rightD a && (decide (Lt a b) && setD (b :: l))
def IsSet (l : List ID) : Prop := (∀ x ∈ l, rightD x = true) ∧ l.Pairwise Lt
def hasD (l : List ID) (x : ID) : Bool := decide (x ∈ l)
def addD (l : List ID) (x : ID) : List ID :=
  if rightD x = true ∧ ¬ x ∈ l then l.takeWhile (fun y => decide (Lt y x)) ++ x :: l.dropWhile (fun y => decide (Lt y x)) else l
def joinD (a b : List ID) : List ID := b.foldl addD a
def lessD (a b : List ID) : List ID := a.filter fun x => !hasD b x

theorem rightD_iff (p : ID) : rightD p = true ↔ 1 ≤ p.1 ∧ p.1 ≤ 7 ∧ 1 ≤ p.2 ∧ p.2 ≤ 16777215 := by simp [rightD]
theorem Lt.irrefl (a : ID) : ¬ Lt a a := by unfold Lt; omega
theorem Lt.trans {a b c : ID} (h : Lt a b) (k : Lt b c) : Lt a c := by unfold Lt at *; omega
theorem Lt.asymm {a b : ID} (h : Lt a b) : ¬ Lt b a := by unfold Lt at *; omega
theorem id_ext {a b : ID} (h1 : a.1 = b.1) (h2 : a.2 = b.2) : a = b := Prod.ext h1 h2
theorem Lt.total (a b : ID) : Lt a b ∨ a = b ∨ Lt b a := by
  by_cases h1 : a.1 = b.1 ∧ a.2 = b.2
  · exact .inr (.inl (id_ext h1.1 h1.2))
  · unfold Lt; omega
theorem order_lt {a b : ID} : orderD a b < 0 ↔ Lt a b := by
  unfold orderD
  by_cases h : Lt a b
  · rw [if_pos h]; exact ⟨fun _ => h, fun _ => by decide⟩
  · rw [if_neg h]
    refine ⟨fun k => ?_, fun k => absurd k h⟩
    split at k <;> simp at k
theorem order_zero {a b : ID} : orderD a b = 0 ↔ a = b := by
  unfold orderD
  split
  · rename_i h
    constructor
    · intro h'; simp at h'
    · rintro rfl; exact absurd h (Lt.irrefl _)
  · split <;> simp [*]
theorem order_neg (a b : ID) : orderD a b = -orderD b a := by
  unfold orderD
  rcases Lt.total a b with h | h | h
  · rw [if_pos h, if_neg h.asymm, if_neg (fun e => by rw [e] at h; exact Lt.irrefl _ h)]
  · subst h; rw [if_neg (Lt.irrefl _), if_pos rfl]; rfl
  · rw [if_neg h.asymm, if_pos h, if_neg (fun e => by rw [e] at h; exact Lt.irrefl _ h)]
    rfl

theorem setD_iff : ∀ l, setD l = true ↔ IsSet l
  | [] => ⟨fun _ => ⟨fun _ h => (by cases h), .nil⟩, fun _ => rfl⟩
  | [a] => by
    constructor
    · intro h
      refine ⟨fun x hx => ?_, List.pairwise_singleton _ _⟩
      obtain rfl : x = a := by simpa using hx
      exact h
    · intro h
      exact h.1 a (by simp)
  | a :: b :: l => by
    have ih := setD_iff (b :: l)
    unfold setD
    rw [Bool.and_eq_true, Bool.and_eq_true, decide_eq_true_eq, ih]
    constructor
    · rintro ⟨h1, h2, h3, h4⟩
      refine ⟨fun x hx => ?_, List.pairwise_cons.2 ⟨fun y hy => ?_, h4⟩⟩
      · rcases List.mem_cons.1 hx with rfl | hx
        · exact h1
        · exact h3 x hx
      · rcases List.mem_cons.1 hy with rfl | hy
        · exact h2
        · exact h2.trans ((List.pairwise_cons.1 h4).1 y hy)
    · rintro ⟨h1, h2⟩
      have h3 := List.pairwise_cons.1 h2
      exact ⟨h1 a (by simp), h3.1 b (by simp), fun x hx => h1 x (List.mem_cons_of_mem _ hx), h3.2⟩

/-- a set is what is in it -/
theorem IsSet.ext : ∀ {l l' : List ID}, IsSet l → IsSet l' → (∀ x, x ∈ l ↔ x ∈ l') → l = l'
  | [], [], _, _, _ => rfl
  | [], b :: _, _, _, h => by have := (h b).2 (by simp); cases this
  | a :: _, [], _, _, h => by have := (h a).1 (by simp); cases this
  | a :: l, b :: l', hs, hs', h => by
    have p := List.pairwise_cons.1 hs.2
    have p' := List.pairwise_cons.1 hs'.2
    have hab : a = b := by
      rcases List.mem_cons.1 ((h a).1 (by simp)) with e | e
      · exact e
      · rcases List.mem_cons.1 ((h b).2 (by simp)) with f | f
        · exact f.symm
        · exact absurd (p.1 b f) (p'.1 a e).asymm
    subst hab
    have : l = l' := IsSet.ext ⟨fun x hx => hs.1 x (List.mem_cons_of_mem _ hx), p.2⟩ ⟨fun x hx => hs'.1 x (List.mem_cons_of_mem _ hx), p'.2⟩ (fun x => by
      constructor
      · intro hx
        rcases List.mem_cons.1 ((h x).1 (List.mem_cons_of_mem _ hx)) with e | e
        · subst e; exact absurd (p.1 _ hx) (Lt.irrefl _)
        · exact e
      · intro hx
        rcases List.mem_cons.1 ((h x).2 (List.mem_cons_of_mem _ hx)) with e | e
        · subst e; exact absurd (p'.1 _ hx) (Lt.irrefl _)
        · exact e)
    rw [this]
theorem IsSet.nil : IsSet [] := ⟨fun _ h => (by cases h), .nil⟩
theorem IsSet.filter {l : List ID} (h : IsSet l) (f : ID → Bool) : IsSet (l.filter f) := ⟨fun x hx => h.1 x (List.mem_filter.1 hx).1, h.2.filter f⟩
theorem mem_less {a b : List ID} {x : ID} : x ∈ lessD a b ↔ x ∈ a ∧ ¬ x ∈ b := by unfold lessD hasD; rw [List.mem_filter]; simp
theorem IsSet.less {a : List ID} (h : IsSet a) (b : List ID) : IsSet (lessD a b) := h.filter _

theorem mem_add {l : List ID} {x y : ID} : y ∈ addD l x ↔ y ∈ l ∨ (y = x ∧ rightD x = true) := by
  unfold addD
  split
  · rename_i h
    have e : ∀ z, z ∈ l ↔ z ∈ l.takeWhile (fun y => decide (Lt y x)) ∨ z ∈ l.dropWhile (fun y => decide (Lt y x)) := fun z => by
      conv => lhs; rw [← List.takeWhile_append_dropWhile (p := fun y => decide (Lt y x)) (l := l)]
      exact List.mem_append
    rw [List.mem_append, List.mem_cons, e]
    constructor
    · rintro (k | rfl | k)
      · exact .inl (.inl k)
      · exact .inr ⟨rfl, h.1⟩
      · exact .inl (.inr k)
    · rintro ((k | k) | ⟨rfl, _⟩)
      · exact .inl k
      · exact .inr (.inr k)
      · exact .inr (.inl rfl)
  · rename_i h
    constructor
    · exact .inl
    · rintro (k | ⟨rfl, k⟩)
      · exact k
      · by_cases hm : y ∈ l
        · exact hm
        · exact absurd ⟨k, hm⟩ h
/-- what stands behind the first that is not below x is above x, in a set without x -/
theorem drop_above {l : List ID} {x : ID} (h : l.Pairwise Lt) (hx : ¬ x ∈ l) : ∀ y ∈ l.dropWhile (fun y => decide (Lt y x)), Lt x y := by
  induction l with
  | nil => intro y hy; cases hy
  | cons a l ih =>
    have p := List.pairwise_cons.1 h
    rw [List.dropWhile_cons]
    split
    · exact ih p.2 (fun k => hx (List.mem_cons_of_mem _ k))
    · rename_i hna
      have hna' : ¬ Lt a x := by simpa using hna
      have hxa : Lt x a := by
        rcases Lt.total a x with k | k | k
        · exact absurd k hna'
        · exact absurd (by rw [k]; simp) hx
        · exact k
      intro y hy
      rcases List.mem_cons.1 hy with rfl | hy
      · exact hxa
      · exact hxa.trans (p.1 y hy)
theorem take_below {l : List ID} {x : ID} : ∀ y ∈ l.takeWhile (fun y => decide (Lt y x)), Lt y x := by
  induction l with
  | nil => intro y hy; cases hy
  | cons a l ih =>
    rw [List.takeWhile_cons]
    split
    · rename_i ha
      intro y hy
      rcases List.mem_cons.1 hy with rfl | hy
      · simpa using ha
      · exact ih y hy
    · intro y hy; cases hy
theorem IsSet.add {l : List ID} (h : IsSet l) (x : ID) : IsSet (addD l x) := by
  refine ⟨fun y hy => ?_, ?_⟩
  · rcases mem_add.1 hy with k | ⟨rfl, k⟩
    · exact h.1 y k
    · exact k
  · unfold addD
    split
    · rename_i hx
      have h2 := h.2
      rw [← List.takeWhile_append_dropWhile (p := fun y => decide (Lt y x)) (l := l), List.pairwise_append] at h2
      rw [List.pairwise_append]
      refine ⟨h2.1, List.pairwise_cons.2 ⟨drop_above h.2 hx.2, h2.2.1⟩, fun a ha b hb => ?_⟩
      rcases List.mem_cons.1 hb with rfl | hb
      · exact take_below a ha
      · exact h2.2.2 a ha b hb
    · exact h.2
theorem mem_join {a : List ID} : ∀ {b : List ID} {x : ID}, x ∈ joinD a b ↔ x ∈ a ∨ (x ∈ b ∧ rightD x = true) := by
  intro b
  unfold joinD
  induction b generalizing a with
  | nil => intro x; simp
  | cons y b ih =>
    intro x
    rw [List.foldl_cons, ih, mem_add, List.mem_cons]
    constructor
    · rintro ((k | ⟨rfl, k⟩) | ⟨k, k'⟩)
      · exact .inl k
      · exact .inr ⟨.inl rfl, k⟩
      · exact .inr ⟨.inr k, k'⟩
    · rintro (k | ⟨rfl | k, k'⟩)
      · exact .inl (.inl k)
      · exact .inl (.inr ⟨rfl, k'⟩)
      · exact .inr ⟨k, k'⟩
theorem IsSet.join {a : List ID} (h : IsSet a) : ∀ (b : List ID), IsSet (joinD a b) := by
  intro b
  unfold joinD
  induction b generalizing a with
  | nil => exact h
  | cons y b ih => rw [List.foldl_cons]; exact ih (h.add y)
theorem mem_join_set {a b : List ID} (hb : IsSet b) {x : ID} : x ∈ joinD a b ↔ x ∈ a ∨ x ∈ b := by
  rw [mem_join]
  exact ⟨fun h => h.elim .inl (fun k => .inr k.1), fun h => h.elim .inl (fun k => .inr ⟨k, hb.1 x k⟩)⟩
/-- joined in whatever order, and however often -/
theorem join_comm {a b : List ID} (ha : IsSet a) (hb : IsSet b) : joinD a b = joinD b a :=
  (ha.join b).ext (hb.join a) fun x => by rw [mem_join_set hb, mem_join_set ha, Or.comm]
theorem join_assoc {a b c : List ID} (ha : IsSet a) (hb : IsSet b) (hc : IsSet c) : joinD (joinD a b) c = joinD a (joinD b c) :=
  ((ha.join b).join c).ext (ha.join _) fun x => by rw [mem_join_set hc, mem_join_set hb, mem_join_set (hb.join c), mem_join_set hc, or_assoc]
theorem join_again {a b : List ID} (ha : IsSet a) (hb : IsSet b) : joinD (joinD a b) a = joinD a b :=
  ((ha.join b).join a).ext (ha.join b) fun x => by
    rw [mem_join_set ha, mem_join_set hb]
    exact ⟨fun h => h.elim id .inl, .inl⟩
theorem join_less {a b : List ID} (ha : IsSet a) (hb : IsSet b) : joinD (lessD a b) b = joinD a b :=
  ((ha.less b).join b).ext (ha.join b) fun x => by
    rw [mem_join_set hb, mem_join_set hb, mem_less]
    by_cases h : x ∈ b <;> simp [h]
theorem less_self (a : List ID) : lessD a a = [] := by
  rw [List.eq_nil_iff_forall_not_mem]
  intro x hx
  exact (mem_less.1 hx).2 (mem_less.1 hx).1
theorem add_length (l : List ID) (x : ID) : (addD l x).length = if rightD x = true ∧ ¬ x ∈ l then l.length + 1 else l.length := by
  unfold addD
  split
  · have := congrArg List.length (List.takeWhile_append_dropWhile (p := fun y => decide (Lt y x)) (l := l))
    rw [List.length_append] at this
    rw [List.length_append, List.length_cons]
    omega
  · rfl
end Go.Proofs.YtkemljpjfbmjgaaDoor.Dp
