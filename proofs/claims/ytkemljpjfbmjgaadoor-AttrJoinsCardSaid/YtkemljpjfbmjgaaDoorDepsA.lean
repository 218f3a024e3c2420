/-
  Contracts: Add, Has. Conditions: as each theorem says.
-/
import Derived.Test.YtkemljpjfbmjgaaDoorDepsJo
import Derived.Test.YtkemljpjfbmjgaaDoorDepsLe
import Derived.Lib.SliceRun
namespace Go.Proofs.YtkemljpjfbmjgaaDoor.Dp
open Go.RowKit
set_option maxRecDepth 100000

theorem join_any (xs ys zs : List ID) (h : joinD xs ys = zs) (sx : IsSet xs) (sy : IsSet ys) (ao bo : Option Addr) (ca cb : Nat) (hx : xs.length ≤ 1048576) (hy : ys.length ≤ 1048576) (w : World) (ra : Idz w ao ca xs) (rb : Idz w bo cb ys) :
    Calls Tryd.prog 32 #[.slice ao xs.length ca, .slice bo ys.length cb] w fun e w' => ∃ v cv, e = .returned (.slice v zs.length cv) ∧ Idz w' v cv zs ∧ Below w.heap.size w w' :=
  join_raw xs ys zs ((merge_join sx sy).trans h) ao bo ca cb hx hy w ra rb

theorem one_set {x : ID} (h : rightD x = true) : IsSet [x] := ⟨fun y hy => by rw [List.mem_singleton.1 hy]; exact h, List.pairwise_singleton _ _⟩
theorem one_new (W : World) (p q : Int) (t : TypeId) : Idz (W.alloc (.cells #[.int .i64 p, .int .i64 q] t)) (some ⟨W.heap.size, 0, none⟩) 1 [(p, q)] :=
  ⟨⟨by simp, by unfold maxLen; omega, fun j hj => by
    obtain rfl : j = 0 := by simpa using hj
    exact ⟨⟨W.heap.size, 0, none⟩, rfl, by simp, two_new0 _ _ _ _, two_new1 _ _ _ _⟩⟩, fun e => by cases e⟩

/-- whether one is in a set: where it would stand -/
theorem has_at {xs : List ID} {t : ID} {lo : Nat} (sx : IsSet xs) (hlo : lo ≤ xs.length) (h1 : ∀ i, i < lo → Lt (xs.getD i (0, 0)) t) (h2 : ∀ i, lo ≤ i → i < xs.length → ¬ Lt (xs.getD i (0, 0)) t) :
    hasD xs t = true ↔ lo < xs.length ∧ xs.getD lo (0, 0) = t := by
  have hg : ∀ i (h : i < xs.length), xs.getD i (0, 0) = xs[i] := fun i h => by rw [List.getD_eq_getElem?_getD, List.getElem?_eq_getElem h]; rfl
  unfold hasD
  rw [decide_eq_true_eq]
  constructor
  · intro hm
    obtain ⟨j, hj, e⟩ := List.getElem_of_mem hm
    have hj1 : ¬ j < lo := fun h => by
      have := h1 j h
      rw [hg j hj, e] at this
      exact Lt.irrefl _ this
    have hj2 : ¬ lo < j := fun h => by
      have hl : lo < xs.length := by omega
      have := h2 lo (Nat.le_refl _) hl
      rw [hg lo hl, ← e] at this
      exact this ((List.pairwise_iff_getElem.1 sx.2) lo j hl hj h)
    obtain rfl : lo = j := by omega
    exact ⟨hj, by rw [hg lo hj, e]⟩
  · rintro ⟨h, e⟩
    rw [← e, hg lo h]
    exact List.getElem_mem h
theorem mono_at {xs : List ID} {t : ID} (sx : IsSet xs) {i j : Nat} (h : i ≤ j) (hj : j < xs.length) (hl : Lt (xs.getD j (0, 0)) t) : Lt (xs.getD i (0, 0)) t := by
  have hg : ∀ i (h : i < xs.length), xs.getD i (0, 0) = xs[i] := fun i h => by rw [List.getD_eq_getElem?_getD, List.getElem?_eq_getElem h]; rfl
  rcases Nat.lt_or_ge i j with k | k
  · rw [hg j hj] at hl
    rw [hg i (by omega)]
    exact ((List.pairwise_iff_getElem.1 sx.2) i j (by omega) hj k).trans hl
  · rwa [show i = j by omega]
def Under (xs : List ID) (t : ID) (lo hi : Nat) : Prop := (∀ i, i < lo → Lt (xs.getD i (0, 0)) t) ∧ ∀ i, hi ≤ i → i < xs.length → ¬ Lt (xs.getD i (0, 0)) t

set_option maxRecDepth 100000 in
set_option maxHeartbeats 1000000 in
theorem search_any (xs : List ID) (p q : Int) (z : Bool) (h : hasD xs (p, q) = z) (sx : IsSet xs) (ao : Option Addr) (ca : Nat) (hx : xs.length ≤ 1048576) (w : World) (ra : Ids w ao ca xs) :
    Calls Tryd.prog 44 #[.slice ao xs.length ca, .agg #[.int .i64 p, .int .i64 q], .func (.func 45) #[] #[]] w fun e w' => ∃ k, e = .returned (.tuple #[.int .i64 k, .bool z]) ∧ Below w.heap.size w w' := by
  have HA := Lib.hid ra
  have HE := Lib.hid h
  have d0 : (w.alloc (.cells #[.int .i64 p, .int .i64 q] 58)).cell? ⟨w.heap.size, 0, none⟩ = some (.int .i64 p) := two_new0 _ _ _ _
  have d1 : (w.alloc (.cells #[.int .i64 p, .int .i64 q] 58)).cell? ⟨w.heap.size, 1, none⟩ = some (.int .i64 q) := two_new1 _ _ _ _
  have hsz : w.heap.size < (w.alloc (.cells #[.int .i64 p, .int .i64 q] 58)).heap.size := by simp
  have hb0 : Below w.heap.size w (w.alloc (.cells #[.int .i64 p, .int .i64 q] 58)) := (Below.refl _ _).alloc (Nat.le_refl _) _
  clear ra h
  go_enter Tryd.func44, Tryd.ntmps44
  go_wp2_with fail
  generalize w.alloc (.cells #[.int .i64 p, .int .i64 q] 58) = w1 at *
  have HB1 := Lib.hid hb0
  have HD : Hid (∀ W, Below w1.heap.size w1 W → W.cell? ⟨w.heap.size, 0, none⟩ = some (.int .i64 p) ∧ W.cell? ⟨w.heap.size, 1, none⟩ = some (.int .i64 q)) :=
    Lib.hid fun W hW => ⟨(hW.cell (p := ⟨w.heap.size, 0, none⟩) hsz).trans d0, (hW.cell (p := ⟨w.heap.size, 1, none⟩) hsz).trans d1⟩
  clear d0 d1 hb0 hsz
  go_loopw [9, 10] (fun i j W => ∃ lo hi : Nat, lo ≤ hi ∧ hi ≤ xs.length ∧ i = .int .i64 lo ∧ j = .int .i64 hi ∧ Hid (Under xs (p, q) lo hi) ∧ Hid (Below w1.heap.size w1 W)) (fun i j _ => (intOf j).toNat - (intOf i).toNat)
  case atStart => exact ⟨0, xs.length, by omega, Nat.le_refl _, rfl, rfl, Lib.hid ⟨fun i h => by omega, fun i h1 h2 => by omega⟩, Lib.hid (Below.refl _ _)⟩
  case round =>
    obtain ⟨lo, hi, hlh, hhx, rfl, rfl, hU, hW⟩ := hrel
    by_cases hlt : lo < hi
    · obtain ⟨m, hm⟩ : ∃ m : Nat, m = (lo + hi) / 2 := ⟨_, rfl⟩
      have m1 : lo ≤ m := by omega
      have m2 : m < hi := by omega
      have m3 : ((lo : Int) + (hi : Int)) / 2 = (m : Int) := by omega
      have hmx : m < xs.length := by omega
      have i1 : (0 : Int) ≤ (m : Int) := by omega
      have i2 : (m : Int) < (xs.length : Int) := by omega
      obtain ⟨x, p1, p2, ex, rfl, hxb, c0, c1⟩ := (HA.out.kept (HB1.out.trans (hW.out.mono HB1.out.size))).at hmx
      obtain ⟨oz, hoz⟩ : ∃ oz, Hid (orderD (p1, p2) (p, q) = oz) := ⟨_, Lib.hid rfl⟩
      have HC : Hid (∀ w', Below wr.heap.size wr w' → w'.cell? (x.add (m * 2)) = some (.int .i64 p1) ∧ w'.cell? ⟨(x.add (m * 2)).block, (x.add (m * 2)).off + 1, none⟩ = some (.int .i64 p2) ∧ w'.cell? ⟨w.heap.size, 0, none⟩ = some (.int .i64 p) ∧ w'.cell? ⟨w.heap.size, 1, none⟩ = some (.int .i64 q)) :=
        Lib.hid (fun w' h => ⟨(h.cell (by rw [block_of_add]; exact hxb)).trans c0, (h.cell (by show (x.add _).block < _; rw [block_of_add]; exact hxb)).trans c1, HD.out _ (keep2 h hW.out)⟩)
      have hk0 : Below wr.heap.size wr wr.drew := (Below.refl _ _).drew
      clear c0 c1 hm
      go_wp2_with fail
      by_cases ho : oz < 0
      · have HU : Hid (Under xs (p, q) (m + 1) hi) := Lib.hid ⟨fun i h => mono_at sx (show i ≤ m by omega) hmx (by rw [ex, ← order_lt, hoz.out]; exact ho), hU.out.2⟩
        clear hU ex
        go_region_held3 (fun w' => w'.cell? (x.add (m * 2)) = some (.int .i64 p1) ∧ w'.cell? ⟨(x.add (m * 2)).block, (x.add (m * 2)).off + 1, none⟩ = some (.int .i64 p2) ∧ w'.cell? ⟨w.heap.size, 0, none⟩ = some (.int .i64 p) ∧ w'.cell? ⟨w.heap.size, 1, none⟩ = some (.int .i64 q)) (exact HC.out _ (by assumption)) ((go_at_call 45; refine (order_any _ _ _ _ _ hoz.out _).mono ?_; rintro e w4 ⟨rfl, hb4⟩; have hk4 := keep2 hb4 (by assumption)))
        go_wp2
        refine ⟨⟨m + 1, hi, by omega, hhx, by go_num, rfl, HU, Lib.hid (hW.out.trans (hk4.mono hW.out.size))⟩, by simp [intOf]; omega⟩
      · have HU : Hid (Under xs (p, q) lo m) := Lib.hid ⟨hU.out.1, fun i h1 h2 h3 => ho (by
          have := mono_at sx h1 h2 h3
          rw [ex, ← order_lt, hoz.out] at this
          exact this)⟩
        clear hU ex
        go_region_held3 (fun w' => w'.cell? (x.add (m * 2)) = some (.int .i64 p1) ∧ w'.cell? ⟨(x.add (m * 2)).block, (x.add (m * 2)).off + 1, none⟩ = some (.int .i64 p2) ∧ w'.cell? ⟨w.heap.size, 0, none⟩ = some (.int .i64 p) ∧ w'.cell? ⟨w.heap.size, 1, none⟩ = some (.int .i64 q)) (exact HC.out _ (by assumption)) ((go_at_call 45; refine (order_any _ _ _ _ _ hoz.out _).mono ?_; rintro e w4 ⟨rfl, hb4⟩; have hk4 := keep2 hb4 (by assumption)))
        go_wp2
        refine ⟨⟨lo, m, by omega, by omega, rfl, rfl, HU, Lib.hid (hW.out.trans (hk4.mono hW.out.size))⟩, by simp [intOf]; omega⟩
    · obtain rfl : lo = hi := by omega
      have hat := has_at sx hhx hU.out.1 hU.out.2
      have hk0 : Below wr.heap.size wr wr.drew := (Below.refl _ _).drew
      by_cases hn : lo < xs.length
      · obtain ⟨x, p1, p2, ex, rfl, hxb, c0, c1⟩ := (HA.out.kept (HB1.out.trans (hW.out.mono HB1.out.size))).at hn
        obtain ⟨oz, hoz⟩ : ∃ oz, Hid (orderD (p1, p2) (p, q) = oz) := ⟨_, Lib.hid rfl⟩
        have HC : Hid (∀ w', Below wr.heap.size wr w' → w'.cell? (x.add (lo * 2)) = some (.int .i64 p1) ∧ w'.cell? ⟨(x.add (lo * 2)).block, (x.add (lo * 2)).off + 1, none⟩ = some (.int .i64 p2) ∧ w'.cell? ⟨w.heap.size, 0, none⟩ = some (.int .i64 p) ∧ w'.cell? ⟨w.heap.size, 1, none⟩ = some (.int .i64 q)) :=
          Lib.hid (fun w' h => ⟨(h.cell (by rw [block_of_add]; exact hxb)).trans c0, (h.cell (by show (x.add _).block < _; rw [block_of_add]; exact hxb)).trans c1, HD.out _ (keep2 h hW.out)⟩)
        have hz : z = (oz == 0) := by
          rw [← HE.out, Bool.eq_iff_iff, hat, ex, beq_iff_eq, ← order_zero (a := (p1, p2)), hoz.out]
          exact ⟨fun h => h.2, fun h => ⟨hn, h⟩⟩
        subst hz
        clear hat hU ex c0 c1
        go_wp2_with fail
        go_region_held3 (fun w' => w'.cell? (x.add (lo * 2)) = some (.int .i64 p1) ∧ w'.cell? ⟨(x.add (lo * 2)).block, (x.add (lo * 2)).off + 1, none⟩ = some (.int .i64 p2) ∧ w'.cell? ⟨w.heap.size, 0, none⟩ = some (.int .i64 p) ∧ w'.cell? ⟨w.heap.size, 1, none⟩ = some (.int .i64 q)) (exact HC.out _ (by assumption)) ((go_at_call 45; refine (order_any _ _ _ _ _ hoz.out _).mono ?_; rintro e w4 ⟨rfl, hb4⟩; have hk4 := keep2 hb4 (by assumption)))
        go_wp2
        exact bodyPost_ret (v := .tuple #[.int .i64 lo, .bool (oz == 0)]) (by simp [results, Tryd.results44, go_sem]) rfl ⟨_, rfl, HB1.out.trans ((hW.out.trans (hk4.mono hW.out.size)).mono HB1.out.size)⟩
      · obtain rfl : z = false := by
          rw [← HE.out, Bool.eq_false_iff]
          intro h
          exact hn (hat.1 h).1
        have HC : Hid (∀ w', Below wr.heap.size wr w' → w'.cell? ⟨w.heap.size, 0, none⟩ = some (.int .i64 p) ∧ w'.cell? ⟨w.heap.size, 1, none⟩ = some (.int .i64 q)) :=
          Lib.hid (fun w' h => HD.out _ (keep2 h hW.out))
        have hn2 : ¬ ((lo : Int) < (xs.length : Int)) := by omega
        clear hat hU
        go_wp2_with fail
        refine wp_region_held_drew (S := fun w' => w'.cell? ⟨w.heap.size, 0, none⟩ = some (.int .i64 p) ∧ w'.cell? ⟨w.heap.size, 1, none⟩ = some (.int .i64 q)) (by kernel_rfl) (HC.out _ hk0) (fun hHeld => ?_)
        refine take_yes (i := 0) (oi := ⟨some 35, _, _, _, _, _⟩) (v := ?_) rfl (by kernel_rfl) (by kernel_rfl) (by kernel_rfl) (fun _ _ _ h => h) (by kernel_rfl) ?_ (by assumption) ?_
        rotate_left
        · (intro w' hSw; (try dsimp only at hSw); first | (go_simp; done) | (go_simp; with_reducible rfl))
        (try simp only [Act.put]); (try simp only [List.setIfInBounds_toArray]); (try simp only [List.set_cons_succ]); (try simp only [List.set_cons_zero])
        refine take_yes (i := 1) (oi := ⟨some 36, _, _, _, _, _⟩) (v := ?_) rfl (by kernel_rfl) (by kernel_rfl) (by kernel_rfl) (fun _ _ _ h => h) (by kernel_rfl) ?_ (by assumption) ?_
        rotate_left
        · (intro w' hSw; (try dsimp only at hSw); first | (go_simp; done) | (go_simp; with_reducible rfl))
        (try simp only [Act.put]); (try simp only [List.setIfInBounds_toArray]); (try simp only [List.set_cons_succ]); (try simp only [List.set_cons_zero])
        refine take_yes (i := 2) (oi := ⟨some 37, _, _, _, _, _⟩) (v := ?_) rfl (by kernel_rfl) (by kernel_rfl) (by kernel_rfl) (fun _ _ _ h => h) (by kernel_rfl) ?_ (by assumption) ?_
        rotate_left
        · (intro w' hSw; (try dsimp only at hSw); first | (go_simp; done) | (go_simp; with_reducible rfl))
        (try simp only [Act.put]); (try simp only [List.setIfInBounds_toArray]); (try simp only [List.set_cons_succ]); (try simp only [List.set_cons_zero])
        refine take_yes (i := 3) (oi := ⟨some 38, _, _, _, _, _⟩) (v := ?_) rfl (by kernel_rfl) (by kernel_rfl) (by kernel_rfl) (fun _ _ _ h => h) (by kernel_rfl) ?_ (by assumption) ?_
        rotate_left
        · (intro w' hSw; (try dsimp only at hSw); first | (go_simp; done) | (go_simp; with_reducible rfl))
        (try simp only [Act.put]); (try simp only [List.setIfInBounds_toArray]); (try simp only [List.set_cons_succ]); (try simp only [List.set_cons_zero])
        refine take_yes (i := 4) (oi := ⟨some 39, _, _, _, _, _⟩) (v := ?_) rfl (by kernel_rfl) (by kernel_rfl) (by kernel_rfl) (fun _ _ _ h => h) (by kernel_rfl) ?_ (by assumption) ?_
        rotate_left
        · (intro w' hSw; (try dsimp only at hSw); first | (go_simp; done) | (go_simp; with_reducible rfl))
        (try simp only [Act.put]); (try simp only [List.setIfInBounds_toArray]); (try simp only [List.set_cons_succ]); (try simp only [List.set_cons_zero])
        refine take_no (i := 5) (oi := ⟨some 40, _, _, _, _, _⟩) rfl (by kernel_rfl) (by kernel_rfl) (by kernel_rfl) (fun _ _ _ h => h) (by kernel_rfl) (by assumption) ?_
        (try simp only [Act.put]); (try simp only [List.setIfInBounds_toArray]); (try simp only [List.set_cons_succ]); (try simp only [List.set_cons_zero])
        refine take_no (i := 6) (oi := ⟨some 41, _, _, _, _, _⟩) rfl (by kernel_rfl) (by kernel_rfl) (by kernel_rfl) (fun _ _ _ h => h) (by kernel_rfl) (by assumption) ?_
        (try simp only [Act.put]); (try simp only [List.setIfInBounds_toArray]); (try simp only [List.set_cons_succ]); (try simp only [List.set_cons_zero])
        refine take_no (i := 7) (oi := ⟨some 42, _, _, _, _, _⟩) rfl (by kernel_rfl) (by kernel_rfl) (by kernel_rfl) (fun _ _ _ h => h) (by kernel_rfl) (by assumption) ?_
        (try simp only [Act.put]); (try simp only [List.setIfInBounds_toArray]); (try simp only [List.set_cons_succ]); (try simp only [List.set_cons_zero])
        refine take_no (i := 8) (oi := ⟨some 43, _, _, _, _, _⟩) rfl (by kernel_rfl) (by kernel_rfl) (by kernel_rfl) (fun _ _ _ h => h) (by kernel_rfl) (by assumption) ?_
        (try simp only [Act.put]); (try simp only [List.setIfInBounds_toArray]); (try simp only [List.set_cons_succ]); (try simp only [List.set_cons_zero])
        refine take_no (i := 9) (oi := ⟨some 44, _, _, _, _, _⟩) rfl (by kernel_rfl) (by kernel_rfl) (by kernel_rfl) (fun _ _ _ h => h) (by kernel_rfl) (by assumption) ?_
        (try simp only [Act.put]); (try simp only [List.setIfInBounds_toArray]); (try simp only [List.set_cons_succ]); (try simp only [List.set_cons_zero])
        refine take_no (i := 10) (oi := ⟨some 45, _, _, _, _, _⟩) rfl (by kernel_rfl) (by kernel_rfl) (by kernel_rfl) (fun _ _ _ h => h) (by kernel_rfl) (by assumption) ?_
        (try simp only [Act.put]); (try simp only [List.setIfInBounds_toArray]); (try simp only [List.set_cons_succ]); (try simp only [List.set_cons_zero])
        refine take_no (i := 11) (oi := ⟨some 46, _, _, _, _, _⟩) rfl (by kernel_rfl) (by kernel_rfl) (by kernel_rfl) (fun _ _ _ h => h) (by kernel_rfl) (by assumption) ?_
        (try simp only [Act.put]); (try simp only [List.setIfInBounds_toArray]); (try simp only [List.set_cons_succ]); (try simp only [List.set_cons_zero])
        refine take_no (i := 12) (oi := ⟨some 47, _, _, _, _, _⟩) rfl (by kernel_rfl) (by kernel_rfl) (by kernel_rfl) (fun _ _ _ h => h) (by kernel_rfl) (by assumption) ?_
        (try simp only [Act.put]); (try simp only [List.setIfInBounds_toArray]); (try simp only [List.set_cons_succ]); (try simp only [List.set_cons_zero])
        refine take_yes (i := 13) (oi := ⟨some 48, _, _, _, _, _⟩) (v := ?_) rfl (by kernel_rfl) (by kernel_rfl) (by kernel_rfl) (fun _ _ _ h => h) (by kernel_rfl) ?_ (by assumption) ?_
        rotate_left
        · (intro w' hSw; (try dsimp only at hSw); first | (go_simp; done) | (go_simp; with_reducible rfl))
        (try simp only [Act.put]); (try simp only [List.setIfInBounds_toArray]); (try simp only [List.set_cons_succ]); (try simp only [List.set_cons_zero])
        refine take_yes (i := 14) (oi := ⟨some 6, _, _, _, _, _⟩) (v := ?_) rfl (by kernel_rfl) (by kernel_rfl) (by kernel_rfl) (fun _ _ _ h => h) (by kernel_rfl) ?_ (by assumption) ?_
        rotate_left
        · (intro w' hSw; (try dsimp only at hSw); first | (go_simp; done) | (go_simp; with_reducible rfl))
        (try simp only [Act.put]); (try simp only [List.setIfInBounds_toArray]); (try simp only [List.set_cons_succ]); (try simp only [List.set_cons_zero])
        refine take_yes (i := 15) (oi := ⟨some 7, _, _, _, _, _⟩) (v := ?_) rfl (by kernel_rfl) (by kernel_rfl) (by kernel_rfl) (fun _ _ _ h => h) (by kernel_rfl) ?_ (by assumption) ?_
        rotate_left
        · (intro w' hSw; (try dsimp only at hSw); first | (go_simp; done) | (go_simp; with_reducible rfl))
        (try simp only [Act.put]); (try simp only [List.setIfInBounds_toArray]); (try simp only [List.set_cons_succ]); (try simp only [List.set_cons_zero])
        refine wpAnyH_done (by kernel_rfl) ?_ _
        go_wp2
        exact bodyPost_ret (v := .tuple #[.int .i64 lo, .bool false]) (by simp [results, Tryd.results44, go_sem]) rfl ⟨_, rfl, HB1.out.trans ((hW.out.drew).mono HB1.out.size)⟩

set_option maxRecDepth 100000 in
theorem has_any (xs : List ID) (p q : Int) (z : Bool) (h : hasD xs (p, q) = z) (sx : IsSet xs) (ao : Option Addr) (ca : Nat) (hx : xs.length ≤ 1048576) (w : World) (ra : Ids w ao ca xs) :
    Calls Tryd.prog 25 #[.slice ao xs.length ca, .agg #[.int .i64 p, .int .i64 q]] w fun e w' => e = .returned (.bool z) ∧ Below w.heap.size w w' := by
  have hb1 := Lib.hid (show Below w.heap.size w (w.alloc (.cells #[.int .i64 p, .int .i64 q] 58)) from (Below.refl _ _).alloc (Nat.le_refl _) _)
  go_enter Tryd.func25, Tryd.ntmps25
  go_wp2_with fail
  refine (search_any xs p q z h sx ao ca hx _ (ra.kept hb1.out)).mono ?_
  rintro e w2 ⟨k, rfl, hb2⟩
  go_wp2
  go_ret
  exact ⟨rfl, hb1.out.trans (hb2.mono hb1.out.size)⟩
end Go.Proofs.YtkemljpjfbmjgaaDoor.Dp
