/-
  Contracts: the document's Add and Join. Conditions: as each theorem says.
-/
import Derived.Test.YtkemljpjfbmjgaaDoorDepsY
import Derived.Deep.DeepCutAuto
namespace Go.Proofs.YtkemljpjfbmjgaaDoor.Dp
open Go.RowKit
set_option maxRecDepth 100000

set_option maxRecDepth 100000 in
set_option maxHeartbeats 2000000 in
theorem refadd_any (xs zs : List ID) (p q : Int) (h : addD xs (p, q) = zs) (ao : Option Addr) (ca : Nat) (hl : xs.length ≤ 1048575) (w : World) (ra : Idz w ao ca xs) :
    Calls Tryd.prog 49 #[.slice ao xs.length ca, .agg #[.int .i64 p, .int .i64 q]] w fun e w' => ∃ v cv, e = .returned (.slice v zs.length cv) ∧ Idz w' v cv zs ∧ Below w.heap.size w w' := by
  obtain ⟨i0, hi, hz0, hz1, hz2⟩ := info_parts (P := Tryd.prog) (e := 72) (z := .agg #[.int .i64 0, .int .i64 0]) (size := 2) (bytes := 16) (by kernel_rfl)
  obtain ⟨rz, hrz⟩ : ∃ rz, Hid (rightD (p, q) = rz) := ⟨_, Lib.hid rfl⟩
  obtain ⟨hz, hhz⟩ : ∃ hz, Hid (hasD xs (p, q) = hz) := ⟨_, Lib.hid rfl⟩
  have HA := Lib.hid ra
  have H := Lib.hid h
  have hb1 : Below w.heap.size w (w.alloc (.cells #[.int .i64 p, .int .i64 q] 72)) := (Below.refl _ _).alloc (Nat.le_refl _) _
  have d0 : (w.alloc (.cells #[.int .i64 p, .int .i64 q] 72)).cell? ⟨w.heap.size, 0, none⟩ = some (.int .i64 p) := two_new0 _ _ _ _
  have d1 : (w.alloc (.cells #[.int .i64 p, .int .i64 q] 72)).cell? ⟨w.heap.size, 1, none⟩ = some (.int .i64 q) := two_new1 _ _ _ _
  have hsz : w.heap.size < (w.alloc (.cells #[.int .i64 p, .int .i64 q] 72)).heap.size := by simp
  clear ra h
  go_enter Tryd.func49, Tryd.ntmps49
  go_wp2_with fail
  generalize w.alloc (.cells #[.int .i64 p, .int .i64 q] 72) = w1 at *
  have HB1 := Lib.hid hb1
  have HD : Hid (∀ W, Below w1.heap.size w1 W → W.cell? ⟨w.heap.size, 0, none⟩ = some (.int .i64 p) ∧ W.cell? ⟨w.heap.size, 1, none⟩ = some (.int .i64 q)) :=
    Lib.hid fun W hW => ⟨(hW.cell (p := ⟨w.heap.size, 0, none⟩) hsz).trans d0, (hW.cell (p := ⟨w.heap.size, 1, none⟩) hsz).trans d1⟩
  clear d0 d1 hb1 hsz
  refine (refright_any _ _ _ hrz.out _).mono ?_
  rintro e w2 ⟨rfl, hb2⟩
  have k2 := Lib.hid hb2
  have ⟨f0, f1⟩ := HD.out _ hb2
  clear hb2
  cases rz with
  | false =>
    have HZ : Hid (xs = zs) := Lib.hid (by rw [← H.out]; unfold addD; rw [if_neg (by rw [hrz.out]; simp)])
    clear f0 f1
    have HAw := Lib.hid (HA.out.kept (HB1.out.trans (k2.out.mono HB1.out.size)))
    have hbw := Lib.hid (HB1.out.trans (k2.out.mono HB1.out.size))
    cases ao with
    | none =>
      have hle := HA.out.le
      have h0 : ca = 0 := HA.out.empty rfl
      obtain rfl : xs = [] := List.eq_nil_of_length_eq_zero (by omega)
      subst h0
      go_wp2_with (at_builtin; refine wpList_append_own_none _ rfl _ _ 34 rfl w.heap.size 72 i0 2 Tryd.underlying34 hi (.slice none 0 0) 0 [] rfl (World.ownsRow_nil _ _ _ _) rfl ?_)
      go_wp2
      go_ret
      have ez := HZ.out
      subst ez
      exact ⟨_, _, rfl, HAw.out, hbw.out⟩
    | some x =>
      have HNw := Lib.hid (HAw.out.toIds.news x rfl)
      go_wp2_with (at_builtin; refine wpList_append_own _ rfl _ _ 34 rfl w.heap.size 72 i0 (.agg #[.int .i64 0, .int .i64 0]) 2 16 Tryd.underlying34 hi hz0 hz1 hz2 rfl (by decide) (.slice none 0 0) 0 [] rfl (World.ownsRow_nil _ _ _ _) x xs.length ca (cellsD xs) rfl (cellsD_length _) HNw.out (cellsD_one _) (by unfold maxLen; omega) (by omega) hbw.out.size ?_)
      intro v' w5 own5 g5 _
      have hb5 := Lib.hid (hbw.out.grown g5 hbw.out.size (by intro k hk; simp [Value.ownBlock] at hk))
      have own6 : w5.ownsRow w.heap.size 72 2 v' xs.length (cellsD xs) := by simpa using own5
      clear own5 g5
      go_wp2
      go_ret
      have ez := HZ.out
      subst ez
      obtain ⟨av, cv, rfl, r⟩ := Idz.own own6
      exact ⟨_, _, rfl, r, hb5.out⟩
  | true =>
    go_wp2_with fail
    refine (refhas_any xs p q hz hhz.out ao ca w2 (HA.out.toIds.kept (HB1.out.trans (k2.out.mono HB1.out.size)))).mono ?_
    rintro e w3 ⟨rfl, hb3⟩
    have k3 := Lib.hid (keep2 hb3 k2.out)
    have ⟨g0, g1⟩ := HD.out _ k3.out
    clear hb3 k2 f0 f1
    cases hz with
    | true =>
      have HZ : Hid (xs = zs) := Lib.hid (by rw [← H.out]; unfold addD; rw [if_neg (by have := hhz.out; unfold hasD at this; rw [decide_eq_true_eq] at this; simp [this])])
      clear g0 g1
      have HAw := Lib.hid (HA.out.kept (HB1.out.trans (k3.out.mono HB1.out.size)))
      have hbw := Lib.hid (HB1.out.trans (k3.out.mono HB1.out.size))
      cases ao with
      | none =>
        have hle := HA.out.le
        have h0 : ca = 0 := HA.out.empty rfl
        obtain rfl : xs = [] := List.eq_nil_of_length_eq_zero (by omega)
        subst h0
        go_wp2_with (at_builtin; refine wpList_append_own_none _ rfl _ _ 34 rfl w.heap.size 72 i0 2 Tryd.underlying34 hi (.slice none 0 0) 0 [] rfl (World.ownsRow_nil _ _ _ _) rfl ?_)
        go_wp2
        go_ret
        have ez := HZ.out
        subst ez
        exact ⟨_, _, rfl, HAw.out, hbw.out⟩
      | some x =>
        have HNw := Lib.hid (HAw.out.toIds.news x rfl)
        go_wp2_with (at_builtin; refine wpList_append_own _ rfl _ _ 34 rfl w.heap.size 72 i0 (.agg #[.int .i64 0, .int .i64 0]) 2 16 Tryd.underlying34 hi hz0 hz1 hz2 rfl (by decide) (.slice none 0 0) 0 [] rfl (World.ownsRow_nil _ _ _ _) x xs.length ca (cellsD xs) rfl (cellsD_length _) HNw.out (cellsD_one _) (by unfold maxLen; omega) (by omega) hbw.out.size ?_)
        intro v' w5 own5 g5 _
        have hb5 := Lib.hid (hbw.out.grown g5 hbw.out.size (by intro k hk; simp [Value.ownBlock] at hk))
        have own6 : w5.ownsRow w.heap.size 72 2 v' xs.length (cellsD xs) := by simpa using own5
        clear own5 g5
        go_wp2
        go_ret
        have ez := HZ.out
        subst ez
        obtain ⟨av, cv, rfl, r⟩ := Idz.own own6
        exact ⟨_, _, rfl, r, hb5.out⟩
    | false =>
      have HZ : Hid (xs.takeWhile (fun y => decide (Lt y (p, q))) ++ (p, q) :: xs.dropWhile (fun y => decide (Lt y (p, q))) = zs) := Lib.hid (by
        rw [← H.out]; unfold addD; rw [if_pos ⟨hrz.out, by have := hhz.out; unfold hasD at this; rwa [decide_eq_false_iff_not] at this⟩])
      have hbn := belowN_le xs (p, q)
      clear g0 g1
      go_wp2_with fail
      go_loopw [5] (fun i W => ∃ k : Nat, k ≤ belowN xs (p, q) ∧ i = .int .i64 (k : Int) ∧ Hid (Below w1.heap.size w1 W)) (fun i _ => belowN xs (p, q) - (intOf i).toNat)
      case atStart => exact ⟨0, Nat.zero_le _, rfl, k3⟩
      case round =>
        clear k3
        obtain ⟨k, hk, rfl, hW⟩ := hrel
        by_cases hkb : k < belowN xs (p, q)
        · have hlt : k < xs.length := by omega
          obtain ⟨x, a, b, ex, rfl, hxb, c0, c1⟩ := (HA.out.toIds.kept (HB1.out.trans (hW.out.mono HB1.out.size))).at hlt
          obtain ⟨oz, hoz⟩ : ∃ oz, Hid (orderD (a, b) (p, q) = oz) := ⟨_, Lib.hid rfl⟩
          have ho : oz < 0 := by rw [← hoz.out, order_lt, ← ex]; exact belowN_lt _ _ _ hkb
          have HC : Hid (∀ W, Below wr.heap.size wr W → W.cell? (x.add (k * 2)) = some (.int .i64 a) ∧ W.cell? ⟨(x.add (k * 2)).block, (x.add (k * 2)).off + 1, none⟩ = some (.int .i64 b) ∧ W.cell? ⟨w.heap.size, 0, none⟩ = some (.int .i64 p) ∧ W.cell? ⟨w.heap.size, 1, none⟩ = some (.int .i64 q)) :=
            Lib.hid fun W h => ⟨(h.cell (by rw [block_of_add]; exact hxb)).trans c0, (h.cell (by show (x.add _).block < _; rw [block_of_add]; exact hxb)).trans c1, HD.out _ (keep2 h hW.out)⟩
          have hk0 : Below wr.heap.size wr wr.drew := (Below.refl _ _).drew
          clear c0 c1 ex
          go_wp2_with fail
          go_region_held3 (fun W => W.cell? (x.add (k * 2)) = some (.int .i64 a) ∧ W.cell? ⟨(x.add (k * 2)).block, (x.add (k * 2)).off + 1, none⟩ = some (.int .i64 b) ∧ W.cell? ⟨w.heap.size, 0, none⟩ = some (.int .i64 p) ∧ W.cell? ⟨w.heap.size, 1, none⟩ = some (.int .i64 q)) (exact HC.out _ (by assumption)) ((go_at_call 52; refine (reforder_any _ _ _ _ _ hoz.out _).mono ?_; rintro e w4 ⟨rfl, hb4⟩; have hk4 := keep2 hb4 (by assumption)))
          have HW := Lib.hid (keep2 hk4 hW.out)
          go_wp2
          exact ⟨⟨k + 1, by omega, by go_num, HW⟩, by simp [intOf]; omega⟩
        · have hkk : k = belowN xs (p, q) := by omega
          have HK := Lib.hid hkk
          have hkl : k ≤ xs.length := by omega
          by_cases hlt : k < xs.length
          · obtain ⟨x, a, b, ex, rfl, hxb, c0, c1⟩ := (HA.out.toIds.kept (HB1.out.trans (hW.out.mono HB1.out.size))).at hlt
            obtain ⟨oz, hoz⟩ : ∃ oz, Hid (orderD (a, b) (p, q) = oz) := ⟨_, Lib.hid rfl⟩
            have ho : ¬ oz < 0 := by rw [← hoz.out, order_lt, ← ex, hkk]; exact belowN_at _ _ (by omega)
            have HC : Hid (∀ W, Below wr.heap.size wr W → W.cell? (x.add (k * 2)) = some (.int .i64 a) ∧ W.cell? ⟨(x.add (k * 2)).block, (x.add (k * 2)).off + 1, none⟩ = some (.int .i64 b) ∧ W.cell? ⟨w.heap.size, 0, none⟩ = some (.int .i64 p) ∧ W.cell? ⟨w.heap.size, 1, none⟩ = some (.int .i64 q)) :=
              Lib.hid fun W h => ⟨(h.cell (by rw [block_of_add]; exact hxb)).trans c0, (h.cell (by show (x.add _).block < _; rw [block_of_add]; exact hxb)).trans c1, HD.out _ (keep2 h hW.out)⟩
            have hk0 : Below wr.heap.size wr wr.drew := (Below.refl _ _).drew
            clear c0 c1 ex hkk hkb hbn
            go_wp2_with fail
            go_region_held3 (fun W => W.cell? (x.add (k * 2)) = some (.int .i64 a) ∧ W.cell? ⟨(x.add (k * 2)).block, (x.add (k * 2)).off + 1, none⟩ = some (.int .i64 b) ∧ W.cell? ⟨w.heap.size, 0, none⟩ = some (.int .i64 p) ∧ W.cell? ⟨w.heap.size, 1, none⟩ = some (.int .i64 q)) (exact HC.out _ (by assumption)) ((go_at_call 52; refine (reforder_any _ _ _ _ _ hoz.out _).mono ?_; rintro e w4 ⟨rfl, hb4⟩; have hk4 := keep2 hb4 (by assumption)))
            have KT := Lib.hid (keep2 hk4 hW.out)
            clear hk4 hk0
            have HAw := Lib.hid (HA.out.kept (HB1.out.trans (KT.out.mono HB1.out.size)))
            have HF := Lib.hid (HAw.out.front hkl)
            have hft : (xs.take k).length = k := by rw [List.length_take]; omega
            have HFT := Lib.hid hft
            obtain ⟨yb, hslb, hbk⟩ := HAw.out.back hkl
            have HBK := Lib.hid hbk
            have HSL := Lib.hid hslb
            have hle := HAw.out.le
            have hcm : ca ≤ 9223372036854775807 := HAw.out.capl
            have j1 : (k : Int) ≤ (ca : Int) := by omega
            have j2 : (0 : Int) ≤ (k : Int) := by omega
            have j3 : (k : Int) ≤ (xs.length : Int) := by omega
            clear hft hbk hslb
            go_wp2_with (at_builtin; refine wpList_append_own _ rfl _ _ 34 rfl w4.heap.size 72 i0 (.agg #[.int .i64 0, .int .i64 0]) 2 16 Tryd.underlying34 hi hz0 hz1 hz2 rfl (by decide) (.slice none 0 0) 0 [] rfl (World.ownsRow_nil _ _ _ _) x k ca (cellsD (xs.take k)) rfl (by rw [cellsD_length, HFT.out]) (HF.out.toIds.news x rfl) (cellsD_one _) (by unfold maxLen; omega) (by omega) (Nat.le_refl _) ?_)
            intro v5 w5 own5 g5 _
            have b5 := Lib.hid ((Below.refl w4.heap.size w4).grown g5 (Nat.le_refl _) (by intro j hj; simp [Value.ownBlock] at hj))
            have own5' : w5.ownsRow w4.heap.size 72 2 v5 k (cellsD (xs.take k)) := by simpa using own5
            have ⟨e0, e1⟩ := HD.out _ (keep2 b5.out KT.out)
            have hz5 := b5.out.size
            clear own5 g5
            go_wp2_with (at_builtin; refine wpList_append_own _ rfl _ _ 34 rfl w4.heap.size 72 i0 (.agg #[.int .i64 0, .int .i64 0]) 2 16 Tryd.underlying34 hi hz0 hz1 hz2 rfl (by decide) v5 k (cellsD (xs.take k)) rfl (own5'.alloc _) ⟨w5.heap.size, 0, none⟩ 1 1 [.int .i64 p, .int .i64 q] rfl rfl (news_two _ _ _ _) (by simp [Value.oneCell']) (by unfold maxLen; omega) (by omega) (Nat.le_trans hz5 (by simp)) ?_)
            intro v6 w6 own6 g6 _
            have b6 := Lib.hid ((b5.out.alloc hz5 _).grown g6 (Nat.le_trans hz5 (by simp)) (fun j hj => (own5'.lt j hj).1))
            have hz6 := b6.out.size
            have hB6 := Lib.hid (HBK.out _ b6.out)
            have own7 : w6.ownsRow w4.heap.size 72 2 v6 (k + 1) (cellsD (xs.take k ++ [(p, q)])) := by rw [cellsD_append]; exact own6
            have sl := fun W => HSL.out W
            clear own5' own6 g6 e0 e1
            go_wp2_with (at_builtin; refine wpList_append_own _ rfl _ _ 34 rfl w4.heap.size 72 i0 (.agg #[.int .i64 0, .int .i64 0]) 2 16 Tryd.underlying34 hi hz0 hz1 hz2 rfl (by decide) v6 (k + 1) (cellsD (xs.take k ++ [(p, q)])) rfl own7 yb (xs.length - k) (ca - k) (cellsD (xs.drop k)) rfl (by rw [cellsD_length, List.length_drop]) (hB6.out.toIds.news yb rfl) (cellsD_one _) (by unfold maxLen; omega) (by omega) hz6 ?_)
            intro v8 w8 own8 g8 _
            have b8 := Lib.hid (b6.out.grown g8 hz6 (fun j hj => (own7.lt j hj).1))
            have hzs : xs.take k ++ [(p, q)] ++ xs.drop k = zs := by
              rw [← HZ.out, HK.out, front_is, back_is, List.append_assoc]; rfl
            have hzl : k + 1 + (xs.length - k) = zs.length := by
              rw [← hzs]; simp only [List.length_append, List.length_singleton, List.length_drop, HFT.out]
            have own9 : w8.ownsRow w4.heap.size 72 2 v8 zs.length (cellsD zs) := by
              rw [← hzl, ← hzs, cellsD_append _ (xs.drop k)]; exact own8
            have bz := HB1.out.trans ((keep2 b8.out KT.out).mono HB1.out.size)
            clear own8 g8 own7 sl
            go_wp2
            go_ret
            obtain ⟨av, cv, rfl, r⟩ := Idz.own own9
            exact ⟨_, _, rfl, r, bz⟩
          · have hk0 : Below wr.heap.size wr wr.drew := (Below.refl _ _).drew
            have HC : Hid (∀ W, Below wr.heap.size wr W → W.cell? ⟨w.heap.size, 0, none⟩ = some (.int .i64 p) ∧ W.cell? ⟨w.heap.size, 1, none⟩ = some (.int .i64 q)) := Lib.hid fun W h => HD.out _ (keep2 h hW.out)
            have KT := Lib.hid (hW.out.drew)
            clear hkk hkb hbn
            cases ao with
            | some x =>
              go_wp2_with fail
              refine wp_region_held_drew (S := fun W => W.cell? ⟨w.heap.size, 0, none⟩ = some (.int .i64 p) ∧ W.cell? ⟨w.heap.size, 1, none⟩ = some (.int .i64 q)) (by kernel_rfl) (HC.out _ hk0) (fun hHeld => ?_)
              refine take_yes (i := 0) (oi := ⟨some 17, _, _, _, _, _⟩) (v := ?_) rfl (by kernel_rfl) (by kernel_rfl) (by kernel_rfl) (fun _ _ _ h => h) (by kernel_rfl) ?_ (by assumption) ?_
              rotate_left
              · (intro w' hSw; (try dsimp only at hSw); first | (go_simp; done) | (go_simp; with_reducible rfl))
              (try simp only [Act.put]); (try simp only [List.setIfInBounds_toArray]); (try simp only [List.set_cons_succ]); (try simp only [List.set_cons_zero])
              refine take_yes (i := 1) (oi := ⟨some 18, _, _, _, _, _⟩) (v := ?_) rfl (by kernel_rfl) (by kernel_rfl) (by kernel_rfl) (fun _ _ _ h => h) (by kernel_rfl) ?_ (by assumption) ?_
              rotate_left
              · (intro w' hSw; (try dsimp only at hSw); first | (go_simp; done) | (go_simp; with_reducible rfl))
              (try simp only [Act.put]); (try simp only [List.setIfInBounds_toArray]); (try simp only [List.set_cons_succ]); (try simp only [List.set_cons_zero])
              refine take_yes (i := 2) (oi := ⟨some 19, _, _, _, _, _⟩) (v := ?_) rfl (by kernel_rfl) (by kernel_rfl) (by kernel_rfl) (fun _ _ _ h => h) (by kernel_rfl) ?_ (by assumption) ?_
              rotate_left
              · (intro w' hSw; (try dsimp only at hSw); first | (go_simp; done) | (go_simp; with_reducible rfl))
              (try simp only [Act.put]); (try simp only [List.setIfInBounds_toArray]); (try simp only [List.set_cons_succ]); (try simp only [List.set_cons_zero])
              refine take_yes (i := 3) (oi := ⟨some 20, _, _, _, _, _⟩) (v := ?_) rfl (by kernel_rfl) (by kernel_rfl) (by kernel_rfl) (fun _ _ _ h => h) (by kernel_rfl) ?_ (by assumption) ?_
              rotate_left
              · (intro w' hSw; (try dsimp only at hSw); first | (go_simp; done) | (go_simp; with_reducible rfl))
              (try simp only [Act.put]); (try simp only [List.setIfInBounds_toArray]); (try simp only [List.set_cons_succ]); (try simp only [List.set_cons_zero])
              refine take_yes (i := 4) (oi := ⟨some 21, _, _, _, _, _⟩) (v := ?_) rfl (by kernel_rfl) (by kernel_rfl) (by kernel_rfl) (fun _ _ _ h => h) (by kernel_rfl) ?_ (by assumption) ?_
              rotate_left
              · (intro w' hSw; (try dsimp only at hSw); first | (go_simp; done) | (go_simp; with_reducible rfl))
              (try simp only [Act.put]); (try simp only [List.setIfInBounds_toArray]); (try simp only [List.set_cons_succ]); (try simp only [List.set_cons_zero])
              refine take_no (i := 5) (oi := ⟨some 22, _, _, _, _, _⟩) rfl (by kernel_rfl) (by kernel_rfl) (by kernel_rfl) (fun _ _ _ h => h) (by kernel_rfl) (by assumption) ?_
              (try simp only [Act.put]); (try simp only [List.setIfInBounds_toArray]); (try simp only [List.set_cons_succ]); (try simp only [List.set_cons_zero])
              refine take_no (i := 6) (oi := ⟨some 23, _, _, _, _, _⟩) rfl (by kernel_rfl) (by kernel_rfl) (by kernel_rfl) (fun _ _ _ h => h) (by kernel_rfl) (by assumption) ?_
              (try simp only [Act.put]); (try simp only [List.setIfInBounds_toArray]); (try simp only [List.set_cons_succ]); (try simp only [List.set_cons_zero])
              refine take_no (i := 7) (oi := ⟨some 24, _, _, _, _, _⟩) rfl (by kernel_rfl) (by kernel_rfl) (by kernel_rfl) (fun _ _ _ h => h) (by kernel_rfl) (by assumption) ?_
              (try simp only [Act.put]); (try simp only [List.setIfInBounds_toArray]); (try simp only [List.set_cons_succ]); (try simp only [List.set_cons_zero])
              refine take_no (i := 8) (oi := ⟨some 25, _, _, _, _, _⟩) rfl (by kernel_rfl) (by kernel_rfl) (by kernel_rfl) (fun _ _ _ h => h) (by kernel_rfl) (by assumption) ?_
              (try simp only [Act.put]); (try simp only [List.setIfInBounds_toArray]); (try simp only [List.set_cons_succ]); (try simp only [List.set_cons_zero])
              refine take_no (i := 9) (oi := ⟨some 26, _, _, _, _, _⟩) rfl (by kernel_rfl) (by kernel_rfl) (by kernel_rfl) (fun _ _ _ h => h) (by kernel_rfl) (by assumption) ?_
              (try simp only [Act.put]); (try simp only [List.setIfInBounds_toArray]); (try simp only [List.set_cons_succ]); (try simp only [List.set_cons_zero])
              refine take_no (i := 10) (oi := ⟨some 27, _, _, _, _, _⟩) rfl (by kernel_rfl) (by kernel_rfl) (by kernel_rfl) (fun _ _ _ h => h) (by kernel_rfl) (by assumption) ?_
              (try simp only [Act.put]); (try simp only [List.setIfInBounds_toArray]); (try simp only [List.set_cons_succ]); (try simp only [List.set_cons_zero])
              refine take_no (i := 11) (oi := ⟨some 28, _, _, _, _, _⟩) rfl (by kernel_rfl) (by kernel_rfl) (by kernel_rfl) (fun _ _ _ h => h) (by kernel_rfl) (by assumption) ?_
              (try simp only [Act.put]); (try simp only [List.setIfInBounds_toArray]); (try simp only [List.set_cons_succ]); (try simp only [List.set_cons_zero])
              refine take_yes (i := 12) (oi := ⟨some 29, _, _, _, _, _⟩) (v := ?_) rfl (by kernel_rfl) (by kernel_rfl) (by kernel_rfl) (fun _ _ _ h => h) (by kernel_rfl) ?_ (by assumption) ?_
              rotate_left
              · (intro w' hSw; (try dsimp only at hSw); first | (go_simp; done) | (go_simp; with_reducible rfl))
              (try simp only [Act.put]); (try simp only [List.setIfInBounds_toArray]); (try simp only [List.set_cons_succ]); (try simp only [List.set_cons_zero])
              refine wpAnyH_done (by kernel_rfl) ?_ _
              have HAw := Lib.hid (HA.out.kept (HB1.out.trans (KT.out.mono HB1.out.size)))
              have HF := Lib.hid (HAw.out.front hkl)
              have hft : (xs.take k).length = k := by rw [List.length_take]; omega
              have HFT := Lib.hid hft
              obtain ⟨yb, hslb, hbk⟩ := HAw.out.back hkl
              have HBK := Lib.hid hbk
              have HSL := Lib.hid hslb
              have hle := HAw.out.le
              have hcm : ca ≤ 9223372036854775807 := HAw.out.capl
              have j1 : (k : Int) ≤ (ca : Int) := by omega
              have j2 : (0 : Int) ≤ (k : Int) := by omega
              have j3 : (k : Int) ≤ (xs.length : Int) := by omega
              clear hft hbk hslb
              go_wp2_with (at_builtin; refine wpList_append_own _ rfl _ _ 34 rfl wr.drew.heap.size 72 i0 (.agg #[.int .i64 0, .int .i64 0]) 2 16 Tryd.underlying34 hi hz0 hz1 hz2 rfl (by decide) (.slice none 0 0) 0 [] rfl (World.ownsRow_nil _ _ _ _) x k ca (cellsD (xs.take k)) rfl (by rw [cellsD_length, HFT.out]) (HF.out.toIds.news x rfl) (cellsD_one _) (by unfold maxLen; omega) (by omega) (Nat.le_refl _) ?_)
              intro v5 w5 own5 g5 _
              have b5 := Lib.hid ((Below.refl wr.drew.heap.size (wr.drew)).grown g5 (Nat.le_refl _) (by intro j hj; simp [Value.ownBlock] at hj))
              have own5' : w5.ownsRow wr.drew.heap.size 72 2 v5 k (cellsD (xs.take k)) := by simpa using own5
              have ⟨e0, e1⟩ := HD.out _ (keep2 b5.out KT.out)
              have hz5 := b5.out.size
              clear own5 g5
              go_wp2_with (at_builtin; refine wpList_append_own _ rfl _ _ 34 rfl wr.drew.heap.size 72 i0 (.agg #[.int .i64 0, .int .i64 0]) 2 16 Tryd.underlying34 hi hz0 hz1 hz2 rfl (by decide) v5 k (cellsD (xs.take k)) rfl (own5'.alloc _) ⟨w5.heap.size, 0, none⟩ 1 1 [.int .i64 p, .int .i64 q] rfl rfl (news_two _ _ _ _) (by simp [Value.oneCell']) (by unfold maxLen; omega) (by omega) (Nat.le_trans hz5 (by simp)) ?_)
              intro v6 w6 own6 g6 _
              have b6 := Lib.hid ((b5.out.alloc hz5 _).grown g6 (Nat.le_trans hz5 (by simp)) (fun j hj => (own5'.lt j hj).1))
              have hz6 := b6.out.size
              have hB6 := Lib.hid (HBK.out _ b6.out)
              have own7 : w6.ownsRow wr.drew.heap.size 72 2 v6 (k + 1) (cellsD (xs.take k ++ [(p, q)])) := by rw [cellsD_append]; exact own6
              have sl := fun W => HSL.out W
              clear own5' own6 g6 e0 e1
              go_wp2_with (at_builtin; refine wpList_append_own _ rfl _ _ 34 rfl wr.drew.heap.size 72 i0 (.agg #[.int .i64 0, .int .i64 0]) 2 16 Tryd.underlying34 hi hz0 hz1 hz2 rfl (by decide) v6 (k + 1) (cellsD (xs.take k ++ [(p, q)])) rfl own7 yb (xs.length - k) (ca - k) (cellsD (xs.drop k)) rfl (by rw [cellsD_length, List.length_drop]) (hB6.out.toIds.news yb rfl) (cellsD_one _) (by unfold maxLen; omega) (by omega) hz6 ?_)
              intro v8 w8 own8 g8 _
              have b8 := Lib.hid (b6.out.grown g8 hz6 (fun j hj => (own7.lt j hj).1))
              have hzs : xs.take k ++ [(p, q)] ++ xs.drop k = zs := by
                rw [← HZ.out, HK.out, front_is, back_is, List.append_assoc]; rfl
              have hzl : k + 1 + (xs.length - k) = zs.length := by
                rw [← hzs]; simp only [List.length_append, List.length_singleton, List.length_drop, HFT.out]
              have own9 : w8.ownsRow wr.drew.heap.size 72 2 v8 zs.length (cellsD zs) := by
                rw [← hzl, ← hzs, cellsD_append _ (xs.drop k)]; exact own8
              have bz := HB1.out.trans ((keep2 b8.out KT.out).mono HB1.out.size)
              clear own8 g8 own7 sl
              go_wp2
              go_ret
              obtain ⟨av, cv, rfl, r⟩ := Idz.own own9
              exact ⟨_, _, rfl, r, bz⟩
            | none =>
              have hle := HA.out.le
              have h0 : ca = 0 := HA.out.empty rfl
              obtain rfl : xs = [] := List.eq_nil_of_length_eq_zero (by omega)
              subst h0
              obtain rfl : k = 0 := by simpa using hkl
              go_wp2_with fail
              refine wp_region_held_drew (S := fun W => W.cell? ⟨w.heap.size, 0, none⟩ = some (.int .i64 p) ∧ W.cell? ⟨w.heap.size, 1, none⟩ = some (.int .i64 q)) (by kernel_rfl) (HC.out _ hk0) (fun hHeld => ?_)
              refine take_yes (i := 0) (oi := ⟨some 17, _, _, _, _, _⟩) (v := ?_) rfl (by kernel_rfl) (by kernel_rfl) (by kernel_rfl) (fun _ _ _ h => h) (by kernel_rfl) ?_ (by assumption) ?_
              rotate_left
              · (intro w' hSw; (try dsimp only at hSw); first | (go_simp; done) | (go_simp; with_reducible rfl))
              (try simp only [Act.put]); (try simp only [List.setIfInBounds_toArray]); (try simp only [List.set_cons_succ]); (try simp only [List.set_cons_zero])
              refine take_yes (i := 1) (oi := ⟨some 18, _, _, _, _, _⟩) (v := ?_) rfl (by kernel_rfl) (by kernel_rfl) (by kernel_rfl) (fun _ _ _ h => h) (by kernel_rfl) ?_ (by assumption) ?_
              rotate_left
              · (intro w' hSw; (try dsimp only at hSw); first | (go_simp; done) | (go_simp; with_reducible rfl))
              (try simp only [Act.put]); (try simp only [List.setIfInBounds_toArray]); (try simp only [List.set_cons_succ]); (try simp only [List.set_cons_zero])
              refine take_yes (i := 2) (oi := ⟨some 19, _, _, _, _, _⟩) (v := ?_) rfl (by kernel_rfl) (by kernel_rfl) (by kernel_rfl) (fun _ _ _ h => h) (by kernel_rfl) ?_ (by assumption) ?_
              rotate_left
              · (intro w' hSw; (try dsimp only at hSw); first | (go_simp; done) | (go_simp; with_reducible rfl))
              (try simp only [Act.put]); (try simp only [List.setIfInBounds_toArray]); (try simp only [List.set_cons_succ]); (try simp only [List.set_cons_zero])
              refine take_yes (i := 3) (oi := ⟨some 20, _, _, _, _, _⟩) (v := ?_) rfl (by kernel_rfl) (by kernel_rfl) (by kernel_rfl) (fun _ _ _ h => h) (by kernel_rfl) ?_ (by assumption) ?_
              rotate_left
              · (intro w' hSw; (try dsimp only at hSw); first | (go_simp; done) | (go_simp; with_reducible rfl))
              (try simp only [Act.put]); (try simp only [List.setIfInBounds_toArray]); (try simp only [List.set_cons_succ]); (try simp only [List.set_cons_zero])
              refine take_yes (i := 4) (oi := ⟨some 21, _, _, _, _, _⟩) (v := ?_) rfl (by kernel_rfl) (by kernel_rfl) (by kernel_rfl) (fun _ _ _ h => h) (by kernel_rfl) ?_ (by assumption) ?_
              rotate_left
              · (intro w' hSw; (try dsimp only at hSw); first | (go_simp; done) | (go_simp; with_reducible rfl))
              (try simp only [Act.put]); (try simp only [List.setIfInBounds_toArray]); (try simp only [List.set_cons_succ]); (try simp only [List.set_cons_zero])
              refine take_no (i := 5) (oi := ⟨some 22, _, _, _, _, _⟩) rfl (by kernel_rfl) (by kernel_rfl) (by kernel_rfl) (fun _ _ _ h => h) (by kernel_rfl) (by assumption) ?_
              (try simp only [Act.put]); (try simp only [List.setIfInBounds_toArray]); (try simp only [List.set_cons_succ]); (try simp only [List.set_cons_zero])
              refine take_no (i := 6) (oi := ⟨some 23, _, _, _, _, _⟩) rfl (by kernel_rfl) (by kernel_rfl) (by kernel_rfl) (fun _ _ _ h => h) (by kernel_rfl) (by assumption) ?_
              (try simp only [Act.put]); (try simp only [List.setIfInBounds_toArray]); (try simp only [List.set_cons_succ]); (try simp only [List.set_cons_zero])
              refine take_no (i := 7) (oi := ⟨some 24, _, _, _, _, _⟩) rfl (by kernel_rfl) (by kernel_rfl) (by kernel_rfl) (fun _ _ _ h => h) (by kernel_rfl) (by assumption) ?_
              (try simp only [Act.put]); (try simp only [List.setIfInBounds_toArray]); (try simp only [List.set_cons_succ]); (try simp only [List.set_cons_zero])
              refine take_no (i := 8) (oi := ⟨some 25, _, _, _, _, _⟩) rfl (by kernel_rfl) (by kernel_rfl) (by kernel_rfl) (fun _ _ _ h => h) (by kernel_rfl) (by assumption) ?_
              (try simp only [Act.put]); (try simp only [List.setIfInBounds_toArray]); (try simp only [List.set_cons_succ]); (try simp only [List.set_cons_zero])
              refine take_no (i := 9) (oi := ⟨some 26, _, _, _, _, _⟩) rfl (by kernel_rfl) (by kernel_rfl) (by kernel_rfl) (fun _ _ _ h => h) (by kernel_rfl) (by assumption) ?_
              (try simp only [Act.put]); (try simp only [List.setIfInBounds_toArray]); (try simp only [List.set_cons_succ]); (try simp only [List.set_cons_zero])
              refine take_no (i := 10) (oi := ⟨some 27, _, _, _, _, _⟩) rfl (by kernel_rfl) (by kernel_rfl) (by kernel_rfl) (fun _ _ _ h => h) (by kernel_rfl) (by assumption) ?_
              (try simp only [Act.put]); (try simp only [List.setIfInBounds_toArray]); (try simp only [List.set_cons_succ]); (try simp only [List.set_cons_zero])
              refine take_no (i := 11) (oi := ⟨some 28, _, _, _, _, _⟩) rfl (by kernel_rfl) (by kernel_rfl) (by kernel_rfl) (fun _ _ _ h => h) (by kernel_rfl) (by assumption) ?_
              (try simp only [Act.put]); (try simp only [List.setIfInBounds_toArray]); (try simp only [List.set_cons_succ]); (try simp only [List.set_cons_zero])
              refine take_yes (i := 12) (oi := ⟨some 29, _, _, _, _, _⟩) (v := ?_) rfl (by kernel_rfl) (by kernel_rfl) (by kernel_rfl) (fun _ _ _ h => h) (by kernel_rfl) ?_ (by assumption) ?_
              rotate_left
              · (intro w' hSw; (try dsimp only at hSw); first | (go_simp; done) | (go_simp; with_reducible rfl))
              (try simp only [Act.put]); (try simp only [List.setIfInBounds_toArray]); (try simp only [List.set_cons_succ]); (try simp only [List.set_cons_zero])
              refine wpAnyH_done (by kernel_rfl) ?_ _
              have ⟨e0, e1⟩ := HD.out _ KT.out
              go_upto_region 7 with fail
              go_cut [6] (fun s6 wx => wx.ownsRow wr.drew.heap.size 72 2 s6 0 [] ∧ wx = wr.drew)
              case first =>
                go_wp2_with (at_builtin; refine wpList_append_own_none _ rfl _ _ 34 rfl wr.drew.heap.size 72 i0 2 Tryd.underlying34 hi (.slice none 0 0) 0 [] rfl (World.ownsRow_nil _ _ _ _) rfl ?_)
                go_meet
                exact ⟨World.ownsRow_nil _ _ _ _, rfl⟩
              case rest =>
                obtain ⟨hown6, rfl⟩ := hcut
                go_wp2_with (at_builtin; refine wpList_append_own _ rfl _ _ 34 rfl wr.drew.heap.size 72 i0 (.agg #[.int .i64 0, .int .i64 0]) 2 16 Tryd.underlying34 hi hz0 hz1 hz2 rfl (by decide) _ 0 [] rfl (hown6.alloc _) ⟨wr.drew.heap.size, 0, none⟩ 1 1 [.int .i64 p, .int .i64 q] rfl rfl (news_two _ _ _ _) (by simp [Value.oneCell']) (by unfold maxLen; omega) (by omega) (by simp) ?_)
                intro v6 w6 own6 g6 _
                have b6 := Lib.hid (((Below.refl wr.drew.heap.size wr.drew).alloc (Nat.le_refl _) _).grown g6 (by simp) (fun j hj => (hown6.lt j hj).1))
                have hzs : [(p, q)] = zs := by rw [← HZ.out]; rfl
                have own9 : w6.ownsRow wr.drew.heap.size 72 2 v6 zs.length (cellsD zs) := by rw [← hzs]; exact own6
                have bz := HB1.out.trans ((keep2 b6.out KT.out).mono HB1.out.size)
                clear own6 g6
                obtain ⟨av, cv, rfl, r⟩ := Idz.own own9
                obtain ⟨y, rfl⟩ : ∃ y, av = some y := by
                  obtain ⟨y, e, _⟩ := r.lies 0 (by rw [← hzs]; simp)
                  exact ⟨y, e⟩
                have R := Lib.hid r
                have jl := r.le
                have jc : cv ≤ 9223372036854775807 := r.capl
                have hrun := fun (W : World) (h : W = w6) => run_append_owned_none (P := Tryd.prog) w6 wr.drew.heap.size 34 34 72 i0 2 Tryd.underlying34 hi _ _ _ own9
                have hrun := hrun w6 rfl
                clear own9 r
                go_wp2
              
                go_ret
                exact ⟨_, _, rfl, R.out, bz⟩

/-- the first k joined -/
theorem join_step {xs ys : List ID} {k : Nat} (hk : k < ys.length) {p q : Int} (e : ys.getD k (0, 0) = (p, q)) : joinD xs (ys.take (k + 1)) = addD (joinD xs (ys.take k)) (p, q) := by
  have hx : ys[k] = (p, q) := by rw [← e, List.getD_eq_getElem?_getD, List.getElem?_eq_getElem hk]; rfl
  unfold joinD
  rw [List.take_succ_eq_append_getElem hk, hx, List.foldl_append]
  rfl
theorem join_len (a : List ID) : ∀ b : List ID, (joinD a b).length ≤ a.length + b.length := by
  intro b
  unfold joinD
  induction b generalizing a with
  | nil => exact Nat.le_refl _
  | cons y b ih =>
    rw [List.foldl_cons, List.length_cons]
    have h1 := ih (addD a y)
    have h2 := add_length a y
    split at h2 <;> omega

set_option maxRecDepth 100000 in
set_option maxHeartbeats 2000000 in
theorem refjoin_any (xs ys zs : List ID) (h : joinD xs ys = zs) (ao bo : Option Addr) (ca cb : Nat) (hl : xs.length + ys.length ≤ 1048575) (w : World) (ra : Idz w ao ca xs) (rb : Ids w bo cb ys) :
    Calls Tryd.prog 33 #[.slice ao xs.length ca, .slice bo ys.length cb] w fun e w' => ∃ v cv, e = .returned (.slice v zs.length cv) ∧ Idz w' v cv zs ∧ Below w.heap.size w w' := by
  obtain ⟨i0, hi, hz0, hz1, hz2⟩ := info_parts (P := Tryd.prog) (e := 72) (z := .agg #[.int .i64 0, .int .i64 0]) (size := 2) (bytes := 16) (by kernel_rfl)
  have HA := Lib.hid ra
  have HB := Lib.hid rb
  have H := Lib.hid h
  have loop : ∀ (v : Option Addr) (cv : Nat) (W : World), Idz W v cv xs → Below w.heap.size w W → Hid (Idz W v cv xs ∧ Below w.heap.size w W) := fun _ _ _ a b => Lib.hid ⟨a, b⟩
  clear ra rb h
  cases ao with
  | none =>
    have hle := HA.out.le
    have h0 : ca = 0 := HA.out.empty rfl
    obtain rfl : xs = [] := List.eq_nil_of_length_eq_zero (by omega)
    subst h0
    go_enter Tryd.func33, Tryd.ntmps33
    go_wp2_with (at_builtin; refine wpList_append_own_none _ rfl _ _ 34 rfl w.heap.size 72 i0 2 Tryd.underlying34 hi (.slice none 0 0) 0 [] rfl (World.ownsRow_nil _ _ _ _) rfl ?_)
    have L0 := loop none 0 w HA.out (Below.refl _ _)
    go_wp2_with fail
    go_loopw [5, 6] (fun v i W => ∃ (k : Nat) (ms : List ID) (va : Option Addr) (cc : Nat), k ≤ ys.length ∧ i = .int .i64 (k : Int) ∧ v = .slice va ms.length cc ∧ Hid (joinD [] (ys.take k) = ms) ∧ Hid (Idz W va cc ms ∧ Below w.heap.size w W)) (fun _ i _ => ys.length - (intOf i).toNat)
    case atStart => exact ⟨0, [], none, 0, Nat.zero_le _, rfl, rfl, Lib.hid rfl, L0⟩
    case round =>
      clear L0
      obtain ⟨k, ms, va, cc, hk, rfl, rfl, hJ, hI⟩ := hrel
      by_cases hlt : k < ys.length
      · obtain ⟨y, p, q, ex, rfl, hyb, c0, c1⟩ := (HB.out.kept hI.out.2).at hlt
        have hst := join_step (xs := []) hlt ex
        rw [hJ.out] at hst
        obtain ⟨ns, hns⟩ : ∃ ns, Hid (addD ms (p, q) = ns) := ⟨_, Lib.hid rfl⟩
        have HJ : Hid (joinD [] (ys.take (k + 1)) = ns) := Lib.hid (hst.trans hns.out)
        have hml : ms.length ≤ 1048575 := by
          have := join_len [] (ys.take k)
          rw [hJ.out, List.length_take] at this
          (try simp only [List.length_nil] at this)
          (try simp only [List.length_nil] at hl)
          omega
        clear hst ex hJ
        go_wp2_with fail
        refine (refadd_any ms ns p q hns.out va cc hml _ hI.out.1).mono ?_
        rintro e w7 ⟨v7, c7, rfl, i7, hb⟩
        have HI := Lib.hid (show Idz w7 v7 c7 ns ∧ Below w.heap.size w w7 from ⟨i7, hI.out.2.trans (hb.mono hI.out.2.size)⟩)
        clear i7 hb
        go_wp2
        exact ⟨⟨k + 1, ns, v7, c7, by omega, by go_num, rfl, HJ, HI⟩, by simp [intOf]; omega⟩
      · obtain rfl : k = ys.length := by omega
        have hz : ms = zs := by rw [← H.out, ← hJ.out, List.take_length]
        subst hz
        go_wp2
        go_ret
        exact ⟨_, _, rfl, hI.out.1, hI.out.2⟩
  | some x =>
    have HN := Lib.hid (HA.out.toIds.news x rfl)
    go_enter Tryd.func33, Tryd.ntmps33
    go_wp2_with (at_builtin; refine wpList_append_own _ rfl _ _ 34 rfl w.heap.size 72 i0 (.agg #[.int .i64 0, .int .i64 0]) 2 16 Tryd.underlying34 hi hz0 hz1 hz2 rfl (by decide) (.slice none 0 0) 0 [] rfl (World.ownsRow_nil _ _ _ _) x xs.length ca (cellsD xs) rfl (cellsD_length _) HN.out (cellsD_one _) (by unfold maxLen; omega) (by omega) (Nat.le_refl _) ?_)
    intro v5 w5 own5 g5 _
    have own6 : w5.ownsRow w.heap.size 72 2 v5 xs.length (cellsD xs) := by simpa using own5
    have hb5 := (Below.refl w.heap.size w).grown g5 (Nat.le_refl _) (by intro j hj; simp [Value.ownBlock] at hj)
    obtain ⟨av, cv, rfl, r⟩ := Idz.own own6
    have L0 := loop av cv w5 r hb5
    clear own5 own6 g5 r hb5
    go_wp2_with fail
    go_loopw [5, 6] (fun v i W => ∃ (k : Nat) (ms : List ID) (va : Option Addr) (cc : Nat), k ≤ ys.length ∧ i = .int .i64 (k : Int) ∧ v = .slice va ms.length cc ∧ Hid (joinD xs (ys.take k) = ms) ∧ Hid (Idz W va cc ms ∧ Below w.heap.size w W)) (fun _ i _ => ys.length - (intOf i).toNat)
    case atStart => exact ⟨0, xs, av, cv, Nat.zero_le _, rfl, rfl, Lib.hid rfl, L0⟩
    case round =>
      clear L0
      obtain ⟨k, ms, va, cc, hk, rfl, rfl, hJ, hI⟩ := hrel
      by_cases hlt : k < ys.length
      · obtain ⟨y, p, q, ex, rfl, hyb, c0, c1⟩ := (HB.out.kept hI.out.2).at hlt
        have hst := join_step (xs := xs) hlt ex
        rw [hJ.out] at hst
        obtain ⟨ns, hns⟩ : ∃ ns, Hid (addD ms (p, q) = ns) := ⟨_, Lib.hid rfl⟩
        have HJ : Hid (joinD xs (ys.take (k + 1)) = ns) := Lib.hid (hst.trans hns.out)
        have hml : ms.length ≤ 1048575 := by
          have := join_len xs (ys.take k)
          rw [hJ.out, List.length_take] at this
          (try simp only [List.length_nil] at this)
          (try simp only [List.length_nil] at hl)
          omega
        clear hst ex hJ
        go_wp2_with fail
        refine (refadd_any ms ns p q hns.out va cc hml _ hI.out.1).mono ?_
        rintro e w7 ⟨v7, c7, rfl, i7, hb⟩
        have HI := Lib.hid (show Idz w7 v7 c7 ns ∧ Below w.heap.size w w7 from ⟨i7, hI.out.2.trans (hb.mono hI.out.2.size)⟩)
        clear i7 hb
        go_wp2
        exact ⟨⟨k + 1, ns, v7, c7, by omega, by go_num, rfl, HJ, HI⟩, by simp [intOf]; omega⟩
      · obtain rfl : k = ys.length := by omega
        have hz : ms = zs := by rw [← H.out, ← hJ.out, List.take_length]
        subst hz
        go_wp2
        go_ret
        exact ⟨_, _, rfl, hI.out.1, hI.out.2⟩
end Go.Proofs.YtkemljpjfbmjgaaDoor.Dp
