/-
  Plain mathematics: two sets gone through side by side. Nothing of the program.
-/
import Derived.Test.YtkemljpjfbmjgaaDoorDepsM
namespace Go.Proofs.YtkemljpjfbmjgaaDoor.Dp

/-- both, side by side -/
def mergeD : List ID → List ID → List ID
  | [], ys => ys
  | x :: xs, [] => x :: xs
  | x :: xs, y :: ys => if Lt x y then x :: mergeD xs (y :: ys) else if x = y then x :: mergeD xs ys else y :: mergeD (x :: xs) ys
termination_by xs ys => xs.length + ys.length
/-- those of the first that are not in the second, side by side -/
def minusD : List ID → List ID → List ID
  | [], _ => []
  | x :: xs, [] => x :: xs
  | x :: xs, y :: ys => if Lt x y then x :: minusD xs (y :: ys) else if x = y then minusD xs ys else minusD (x :: xs) ys
termination_by xs ys => xs.length + ys.length
theorem merge_nil (ys : List ID) : mergeD [] ys = ys := by rw [mergeD]
theorem merge_none (xs : List ID) : mergeD xs [] = xs := by cases xs <;> rw [mergeD]
theorem merge_lt {x y : ID} (xs ys : List ID) (h : Lt x y) : mergeD (x :: xs) (y :: ys) = x :: mergeD xs (y :: ys) := by rw [mergeD, if_pos h]
theorem merge_eq {x y : ID} (xs ys : List ID) (h : x = y) : mergeD (x :: xs) (y :: ys) = x :: mergeD xs ys := by
  rw [mergeD, if_neg (by rw [h]; exact Lt.irrefl _), if_pos h]
theorem merge_gt {x y : ID} (xs ys : List ID) (h : Lt y x) : mergeD (x :: xs) (y :: ys) = y :: mergeD (x :: xs) ys := by
  rw [mergeD, if_neg h.asymm, if_neg (fun e => by rw [e] at h; exact Lt.irrefl _ h)]
theorem minus_nil (ys : List ID) : minusD [] ys = [] := by rw [minusD]
theorem minus_none (xs : List ID) : minusD xs [] = xs := by cases xs <;> rw [minusD]
theorem minus_lt {x y : ID} (xs ys : List ID) (h : Lt x y) : minusD (x :: xs) (y :: ys) = x :: minusD xs (y :: ys) := by rw [minusD, if_pos h]
theorem minus_eq {x y : ID} (xs ys : List ID) (h : x = y) : minusD (x :: xs) (y :: ys) = minusD xs ys := by
  rw [minusD, if_neg (by rw [h]; exact Lt.irrefl _), if_pos h]
theorem minus_gt {x y : ID} (xs ys : List ID) (h : Lt y x) : minusD (x :: xs) (y :: ys) = minusD (x :: xs) ys := by
  rw [minusD, if_neg h.asymm, if_neg (fun e => by rw [e] at h; exact Lt.irrefl _ h)]

theorem mem_merge : ∀ (n : Nat) (xs ys : List ID), xs.length + ys.length ≤ n → ∀ z, z ∈ mergeD xs ys ↔ z ∈ xs ∨ z ∈ ys
  | _, [], ys, _, z => by rw [merge_nil]; simp
  | _, x :: xs, [], _, z => by rw [merge_none]; simp
  | 0, x :: xs, y :: ys, h, _ => by simp at h
  | n + 1, x :: xs, y :: ys, h, z => by
    simp only [List.length_cons] at h
    rcases Lt.total x y with k | k | k
    · rw [merge_lt _ _ k, List.mem_cons, mem_merge n xs (y :: ys) (by simp; omega), List.mem_cons (l := xs), or_assoc]
    · rw [merge_eq _ _ k, List.mem_cons, mem_merge n xs ys (by omega), List.mem_cons, List.mem_cons, k]
      exact ⟨fun h => h.elim (fun h => .inl (.inl h)) (fun h => h.elim (fun h => .inl (.inr h)) (fun h => .inr (.inr h))),
        fun h => h.elim (fun h => h.elim .inl (fun h => .inr (.inl h))) (fun h => h.elim .inl (fun h => .inr (.inr h)))⟩
    · rw [merge_gt _ _ k, List.mem_cons, mem_merge n (x :: xs) ys (by simp; omega), List.mem_cons (l := ys)]
      exact ⟨fun h => h.elim (fun h => .inr (.inl h)) (fun h => h.elim .inl (fun h => .inr (.inr h))),
        fun h => h.elim (fun h => .inr (.inl h)) (fun h => h.elim .inl (fun h => .inr (.inr h)))⟩
theorem merge_rises : ∀ (n : Nat) (xs ys : List ID), xs.length + ys.length ≤ n → xs.Pairwise Lt → ys.Pairwise Lt → (mergeD xs ys).Pairwise Lt
  | _, [], ys, _, _, h => by rw [merge_nil]; exact h
  | _, x :: xs, [], _, h, _ => by rw [merge_none]; exact h
  | 0, x :: xs, y :: ys, h, _, _ => by simp at h
  | n + 1, x :: xs, y :: ys, h, hx, hy => by
    simp only [List.length_cons] at h
    have px := List.pairwise_cons.1 hx
    have py := List.pairwise_cons.1 hy
    rcases Lt.total x y with k | k | k
    · rw [merge_lt _ _ k]
      refine List.pairwise_cons.2 ⟨fun z hz => ?_, merge_rises n xs (y :: ys) (by simp; omega) px.2 hy⟩
      rcases (mem_merge _ xs (y :: ys) (Nat.le_refl _) z).1 hz with m | m
      · exact px.1 z m
      · rcases List.mem_cons.1 m with rfl | m
        · exact k
        · exact k.trans (py.1 z m)
    · rw [merge_eq _ _ k]
      refine List.pairwise_cons.2 ⟨fun z hz => ?_, merge_rises n xs ys (by omega) px.2 py.2⟩
      rcases (mem_merge _ xs ys (Nat.le_refl _) z).1 hz with m | m
      · exact px.1 z m
      · rw [k]; exact py.1 z m
    · rw [merge_gt _ _ k]
      refine List.pairwise_cons.2 ⟨fun z hz => ?_, merge_rises n (x :: xs) ys (by simp; omega) hx py.2⟩
      rcases (mem_merge _ (x :: xs) ys (Nat.le_refl _) z).1 hz with m | m
      · rcases List.mem_cons.1 m with rfl | m
        · exact k
        · exact k.trans (px.1 z m)
      · exact py.1 z m
theorem merge_join {xs ys : List ID} (hx : IsSet xs) (hy : IsSet ys) : mergeD xs ys = joinD xs ys := by
  refine IsSet.ext ⟨fun z hz => ?_, merge_rises _ xs ys (Nat.le_refl _) hx.2 hy.2⟩ (hx.join ys) fun z => ?_
  · rcases (mem_merge _ xs ys (Nat.le_refl _) z).1 hz with m | m
    · exact hx.1 z m
    · exact hy.1 z m
  · rw [mem_merge _ xs ys (Nat.le_refl _), mem_join_set hy]

theorem mem_minus : ∀ (n : Nat) (xs ys : List ID), xs.length + ys.length ≤ n → xs.Pairwise Lt → ys.Pairwise Lt → ∀ z, z ∈ minusD xs ys ↔ z ∈ xs ∧ ¬ z ∈ ys
  | _, [], ys, _, _, _, z => by rw [minus_nil]; simp
  | _, x :: xs, [], _, _, _, z => by rw [minus_none]; simp
  | 0, x :: xs, y :: ys, h, _, _, _ => by simp at h
  | n + 1, x :: xs, y :: ys, h, hx, hy, z => by
    simp only [List.length_cons] at h
    have px := List.pairwise_cons.1 hx
    have py := List.pairwise_cons.1 hy
    rcases Lt.total x y with k | k | k
    · rw [minus_lt _ _ k, List.mem_cons, mem_minus n xs (y :: ys) (by simp; omega) px.2 hy, List.mem_cons (l := xs)]
      constructor
      · rintro (rfl | ⟨h1, h2⟩)
        · refine ⟨.inl rfl, fun m => ?_⟩
          rcases List.mem_cons.1 m with e | m
          · rw [e] at k; exact Lt.irrefl _ k
          · exact Lt.irrefl _ (k.trans (py.1 _ m))
        · exact ⟨.inr h1, h2⟩
      · rintro ⟨rfl | h1, h2⟩
        · exact .inl rfl
        · exact .inr ⟨h1, h2⟩
    · subst k
      rw [minus_eq _ _ rfl, mem_minus n xs ys (by omega) px.2 py.2, List.mem_cons, List.mem_cons]
      constructor
      · rintro ⟨h1, h2⟩
        refine ⟨.inr h1, fun m => ?_⟩
        rcases m with rfl | m
        · exact Lt.irrefl _ (px.1 _ h1)
        · exact h2 m
      · rintro ⟨rfl | h1, h2⟩
        · exact absurd (.inl rfl) h2
        · exact ⟨h1, fun m => h2 (.inr m)⟩
    · rw [minus_gt _ _ k, mem_minus n (x :: xs) ys (by simp; omega) hx py.2, List.mem_cons (l := ys)]
      constructor
      · rintro ⟨h1, h2⟩
        refine ⟨h1, fun m => ?_⟩
        rcases m with rfl | m
        · rcases List.mem_cons.1 h1 with e | m
          · rw [e] at k; exact Lt.irrefl _ k
          · exact Lt.irrefl _ (k.trans (px.1 _ m))
        · exact h2 m
      · rintro ⟨h1, h2⟩
        exact ⟨h1, fun m => h2 (.inr m)⟩
theorem minus_rises : ∀ (n : Nat) (xs ys : List ID), xs.length + ys.length ≤ n → xs.Pairwise Lt → ys.Pairwise Lt → (minusD xs ys).Pairwise Lt
  | _, [], ys, _, _, _ => by rw [minus_nil]; exact .nil
  | _, x :: xs, [], _, h, _ => by rw [minus_none]; exact h
  | 0, x :: xs, y :: ys, h, _, _ => by simp at h
  | n + 1, x :: xs, y :: ys, h, hx, hy => by
    simp only [List.length_cons] at h
    have px := List.pairwise_cons.1 hx
    have py := List.pairwise_cons.1 hy
    rcases Lt.total x y with k | k | k
    · rw [minus_lt _ _ k]
      exact List.pairwise_cons.2 ⟨fun z hz => px.1 z ((mem_minus _ xs (y :: ys) (Nat.le_refl _) px.2 hy z).1 hz).1, minus_rises n xs (y :: ys) (by simp; omega) px.2 hy⟩
    · rw [minus_eq _ _ k]
      exact minus_rises n xs ys (by omega) px.2 py.2
    · rw [minus_gt _ _ k]
      exact minus_rises n (x :: xs) ys (by simp; omega) hx py.2
theorem minus_less {xs ys : List ID} (hx : IsSet xs) (hy : IsSet ys) : minusD xs ys = lessD xs ys := by
  refine IsSet.ext ⟨fun z hz => ?_, minus_rises _ xs ys (Nat.le_refl _) hx.2 hy.2⟩ (hx.less ys) fun z => ?_
  · exact hx.1 z ((mem_minus _ xs ys (Nat.le_refl _) hx.2 hy.2 z).1 hz).1
  · rw [mem_minus _ xs ys (Nat.le_refl _) hx.2 hy.2, mem_less]
end Go.Proofs.YtkemljpjfbmjgaaDoor.Dp
