/-
  Contract: Join: two sets side by side. Conditions: as the theorem says.
-/
import Derived.Test.YtkemljpjfbmjgaaDoorDepsJ
namespace Go.Proofs.YtkemljpjfbmjgaaDoor.Dp
open Go.RowKit
set_option maxRecDepth 100000

/-- in the midst of it -/
structure MidJ (w : World) (xs ys : List ID) (cap : Nat) (ao bo : Option Addr) (ca cb : Nat) (xs1 ys1 done : List ID) (W : World) : Prop where
  ra : Idz w ao ca xs1
  rb : Idz w bo cb ys1
  own : W.ownsRow w.heap.size 58 2 (.slice (some ⟨w.heap.size, 0, none⟩) done.length cap) done.length (cellsD done)
  bel : Below w.heap.size w W
  all : done ++ mergeD xs1 ys1 = mergeD xs ys
  len : done.length + xs1.length + ys1.length ≤ cap

set_option maxRecDepth 100000 in
set_option maxHeartbeats 4000000 in
theorem join_raw (xs ys zs : List ID) (h : mergeD xs ys = zs) (ao bo : Option Addr) (ca cb : Nat) (hx : xs.length ≤ 1048576) (hy : ys.length ≤ 1048576) (w : World) (ra : Idz w ao ca xs) (rb : Idz w bo cb ys) :
    Calls Tryd.prog 32 #[.slice ao xs.length ca, .slice bo ys.length cb] w fun e w' => ∃ v cv, e = .returned (.slice v zs.length cv) ∧ Idz w' v cv zs ∧ Below w.heap.size w w' := by
  obtain ⟨i0, hi, hz0, hz1, hz2⟩ := info_parts (P := Tryd.prog) (e := 58) (z := .agg #[.int .i64 0, .int .i64 0]) (size := 2) (bytes := 16) (by kernel_rfl)
  obtain ⟨cap, hcap⟩ : ∃ cap, Hid (xs.length + ys.length = cap) := ⟨_, Lib.hid rfl⟩
  have H := Lib.hid h
  clear h
  go_enter Tryd.func32, Tryd.ntmps32
  go_wp2
  refine scope_two 1 0 (by decide) (fun a' W => ∃ (ao1 bo1 : Option Addr) (ca1 cb1 : Nat) (xs1 ys1 done : List ID), MidJ w xs ys cap ao1 bo1 ca1 cb1 xs1 ys1 done W ∧ ∃ (u6 u7 u8 u9 u10 u11 u12 u13 u14 u15 u16 u17 u18 u19 u20 u21 u22 u23 u24 u25 u26 u27 u28 u29 u30 u31 u32 u33 u34 u35 u36 u37 u38 u39 u40 u41 u42 u43 u44 u45 u46 u47 u48 u49 u50 u51 u52 u53 u54 u55 u56 u57 u58 u59 u60 u61 u62 u63 : Value), a' = { tmps := #[.slice ao1 xs1.length ca1, .slice bo1 ys1.length cb1, undef, undef, .slice none 0 0, .slice (some ⟨w.heap.size, 0, none⟩) done.length cap, u6, u7, u8, u9, u10, u11, u12, u13, u14, u15, u16, u17, u18, u19, u20, u21, u22, u23, u24, u25, u26, u27, u28, u29, u30, u31, u32, u33, u34, u35, u36, u37, u38, u39, u40, u41, u42, u43, u44, u45, u46, u47, u48, u49, u50, u51, u52, u53, u54, u55, u56, u57, u58, u59, u60, u61, u62, u63], defers := [] }) (fun a' W => ∃ (ao1 bo1 : Option Addr) (ca1 cb1 : Nat) (xs1 ys1 done : List ID), (MidJ w xs ys cap ao1 bo1 ca1 cb1 xs1 ys1 done W ∧ (xs1 = [] ∨ ys1 = [])) ∧ ∃ (u6 u7 u8 u9 u10 u11 u12 u13 u14 u15 u16 u17 u18 u19 u20 u21 u22 u23 u24 u25 u26 u27 u28 u29 u30 u31 u32 u33 u34 u35 u36 u37 u38 u39 u40 u41 u42 u43 u44 u45 u46 u47 u48 u49 u50 u51 u52 u53 u54 u55 u56 u57 u58 u59 u60 u61 u62 u63 : Value), a' = { tmps := #[.slice ao1 xs1.length ca1, .slice bo1 ys1.length cb1, undef, undef, .slice none 0 0, .slice (some ⟨w.heap.size, 0, none⟩) done.length cap, u6, u7, u8, u9, u10, u11, u12, u13, u14, u15, u16, u17, u18, u19, u20, u21, u22, u23, u24, u25, u26, u27, u28, u29, u30, u31, u32, u33, u34, u35, u36, u37, u38, u39, u40, u41, u42, u43, u44, u45, u46, u47, u48, u49, u50, u51, u52, u53, u54, u55, u56, u57, u58, u59, u60, u61, u62, u63], defers := [] }) (fun a' _ => lenV (a'.tmps.getD 0 undef) + lenV (a'.tmps.getD 1 undef)) rfl rfl ?_ ?_ ?_
  · rintro a' W ⟨ao1, bo1, ca1, cb1, xs1, ys1, done, ⟨hM, hend⟩, u6, u7, u8, u9, u10, u11, u12, u13, u14, u15, u16, u17, u18, u19, u20, u21, u22, u23, u24, u25, u26, u27, u28, u29, u30, u31, u32, u33, u34, u35, u36, u37, u38, u39, u40, u41, u42, u43, u44, u45, u46, u47, u48, u49, u50, u51, u52, u53, u54, u55, u56, u57, u58, u59, u60, u61, u62, u63, rfl⟩
    have hsz := hM.bel.size
    have HM := Lib.hid hM
    have HE := Lib.hid hend
    clear hM hend
    go_wp2_with (at_builtin; refine wpList_append_fits_any _ rfl _ _ 23 rfl w.heap.size 58 i0 2 Tryd.underlying23 hi hz1 w.heap.size done.length cap (cellsD done) rfl HM.out.own ao1 xs1.length ca1 (cellsD xs1) rfl (cellsD_length _) (fun e => by have := HM.out.ra.empty e; have := HM.out.ra.le; omega) (HM.out.ra.kept HM.out.bel).news (cellsD_one _) (by have := HM.out.len; omega) ?_)
    intro W1 o1 g1
    have hb1 := HM.out.bel.grown g1 hsz (fun _ e => by cases e; exact Nat.le_refl _)
    go_wp2_with (at_builtin; refine wpList_append_fits_any _ rfl _ _ 23 rfl w.heap.size 58 i0 2 Tryd.underlying23 hi hz1 w.heap.size (done.length + xs1.length) cap (cellsD done ++ cellsD xs1) rfl o1 bo1 ys1.length cb1 (cellsD ys1) rfl (cellsD_length _) (fun e => by have := HM.out.rb.empty e; have := HM.out.rb.le; omega) (HM.out.rb.kept hb1).news (cellsD_one _) (by have := HM.out.len; omega) ?_)
    intro W2 o2 g2
    have hb2 := hb1.grown g2 (by have := g1.size; omega) (fun _ e => by cases e; exact Nat.le_refl _)
    have hm : done ++ xs1 ++ ys1 = zs := by
      rw [← H.out, ← HM.out.all]
      rcases HE.out with rfl | rfl
      · rw [merge_nil, List.append_nil]
      · rw [merge_none, List.append_nil]
    have hl : done.length + xs1.length + ys1.length = zs.length := by rw [← hm]; simp only [List.length_append]
    have hn : cellsD done ++ cellsD xs1 ++ cellsD ys1 = cellsD zs := by rw [← hm, cellsD_append, cellsD_append]
    have o3 : W2.ownsRow w.heap.size 58 2 (.slice (some ⟨w.heap.size, 0, none⟩) zs.length cap) zs.length (cellsD zs) := by
      rw [← hn, ← hl]; simpa only [List.append_assoc] using o2
    clear o1 o2 g1 g2 hb1
    go_wp2
    rw [Exit.noGoto_ret]
    go_ret
    obtain ⟨v, cv, e, r⟩ := Idz.own o3
    simp only [Value.slice.injEq] at e
    obtain ⟨rfl, -, rfl⟩ := e
    exact ⟨_, _, by rw [← hl]; rfl, r, hb2⟩
  · rintro a' W ⟨ao1, bo1, ca1, cb1, xs1, ys1, done, hM, u6, u7, u8, u9, u10, u11, u12, u13, u14, u15, u16, u17, u18, u19, u20, u21, u22, u23, u24, u25, u26, u27, u28, u29, u30, u31, u32, u33, u34, u35, u36, u37, u38, u39, u40, u41, u42, u43, u44, u45, u46, u47, u48, u49, u50, u51, u52, u53, u54, u55, u56, u57, u58, u59, u60, u61, u62, u63, rfl⟩
    have hsz := hM.bel.size
    have HM := Lib.hid hM
    clear hM
    by_cases hx0 : xs1.length = 0
    · have e1 : ((xs1.length : Int) == 0) = true := by rw [beq_iff_eq]; omega
      have HE : Hid (xs1 = [] ∨ ys1 = []) := Lib.hid (.inl (List.eq_nil_of_length_eq_zero hx0))
      clear hx0
      go_wp2
      go_step3
      exact .inr ⟨rfl, ao1, bo1, ca1, cb1, xs1, ys1, done, ⟨HM.out, HE.out⟩, _, _, _, _, _, _, _, _, _, _, _, _, _, _, _, _, _, _, _, _, _, _, _, _, _, _, _, _, _, _, _, _, _, _, _, _, _, _, _, _, _, _, _, _, _, _, _, _, _, _, _, _, _, _, _, _, _, _, rfl⟩
    · by_cases hy0 : ys1.length = 0
      · have e1 : ((xs1.length : Int) == 0) = false := by rw [beq_eq_false_iff_ne]; omega
        have e2 : ((ys1.length : Int) == 0) = true := by rw [beq_iff_eq]; omega
        have HE : Hid (xs1 = [] ∨ ys1 = []) := Lib.hid (.inr (List.eq_nil_of_length_eq_zero hy0))
        clear hx0 hy0
        go_wp2
        go_step3
        exact .inr ⟨rfl, ao1, bo1, ca1, cb1, xs1, ys1, done, ⟨HM.out, HE.out⟩, _, _, _, _, _, _, _, _, _, _, _, _, _, _, _, _, _, _, _, _, _, _, _, _, _, _, _, _, _, _, _, _, _, _, _, _, _, _, _, _, _, _, _, _, _, _, _, _, _, _, _, _, _, _, _, _, _, _, rfl⟩
      · obtain ⟨⟨x1, x2⟩, xs2, rfl⟩ := List.exists_cons_of_length_pos (Nat.pos_of_ne_zero hx0)
        obtain ⟨⟨y1, y2⟩, ys2, rfl⟩ := List.exists_cons_of_length_pos (Nat.pos_of_ne_zero hy0)
        simp only [List.length_cons] at *
        obtain ⟨x, rfl, hxb, cx0, cx1⟩ := HM.out.ra.head
        obtain ⟨y, rfl, hyb, cy0, cy1⟩ := HM.out.rb.head
        have hlx : xs2.length + 1 ≤ ca1 := by have := HM.out.ra.le; simpa using this
        have hly : ys2.length + 1 ≤ cb1 := by have := HM.out.rb.le; simpa using this
        have lca : ca1 ≤ 9223372036854775807 := HM.out.ra.capl
        have lcb : cb1 ≤ 9223372036854775807 := HM.out.rb.capl
        obtain ⟨oz, hoz⟩ : ∃ oz, Hid (orderD (x1, x2) (y1, y2) = oz) := ⟨_, Lib.hid rfl⟩
        have e1 : (((xs2.length + 1 : Nat) : Int) == 0) = false := by rw [beq_eq_false_iff_ne]; omega
        have e2 : (((ys2.length + 1 : Nat) : Int) == 0) = false := by rw [beq_eq_false_iff_ne]; omega
        have e3 : (((xs2.length : Int) + 1) == 0) = false := by rw [beq_eq_false_iff_ne]; omega
        have e4 : (((ys2.length : Int) + 1) == 0) = false := by rw [beq_eq_false_iff_ne]; omega
        have HC : Hid (∀ w', Below W.heap.size W w' → w'.cell? x = some (.int .i64 x1) ∧ w'.cell? ⟨x.block, x.off + 1, none⟩ = some (.int .i64 x2) ∧ w'.cell? y = some (.int .i64 y1) ∧ w'.cell? ⟨y.block, y.off + 1, none⟩ = some (.int .i64 y2)) :=
          Lib.hid (fun w' hb => by
            have hb' := HM.out.bel.trans (hb.mono hsz)
            exact ⟨(hb'.cell hxb).trans cx0, (hb'.cell (p := ⟨x.block, x.off + 1, none⟩) hxb).trans cx1, (hb'.cell hyb).trans cy0, (hb'.cell (p := ⟨y.block, y.off + 1, none⟩) hyb).trans cy1⟩)
        have hk0 : Below W.heap.size W W.drew := (Below.refl _ _).drew
        clear hx0 hy0 cx0 cx1 cy0 cy1
        go_wp2_with fail
        go_region_held3 (fun w' => w'.cell? x = some (.int .i64 x1) ∧ w'.cell? ⟨x.block, x.off + 1, none⟩ = some (.int .i64 x2) ∧ w'.cell? y = some (.int .i64 y1) ∧ w'.cell? ⟨y.block, y.off + 1, none⟩ = some (.int .i64 y2)) (exact HC.out _ (by assumption)) ((go_at_call 45; refine (order_any _ _ _ _ _ hoz.out _).mono ?_; rintro e w4 ⟨rfl, hb4⟩; have hk4 := keep2 hb4 (by assumption)))
        have own4 := row_over HM.out.own hk4
        have bel4 := HM.out.bel.trans (hk4.mono hsz)
        have ⟨f0, f1, f2, f3⟩ := HC.out _ hk4
        have hsz4 := bel4.size
        obtain ⟨ao', hsl, ra'⟩ := HM.out.ra.tail
        obtain ⟨bo', hsr, rb'⟩ := HM.out.rb.tail
        have RA := Lib.hid (ra' _ (Below.refl _ _))
        have RB := Lib.hid (rb' _ (Below.refl _ _))
        clear ra' rb' hk4 hk0
        rcases Lt.total (x1, x2) (y1, y2) with hlt | hlt | hlt
        · have eo : oz = -1 := by rw [← hoz.out]; exact order_m1 hlt
          subst eo
          have HL := Lib.hid hlt
          clear hlt
          go_wp2_with fail
          go_region_law
            ((refine step_fits (by rfl) _ _ 23 (by rfl) w.heap.size 58 i0 2 Tryd.underlying23 hi hz1 w.heap.size done.length cap (cellsD done) (by rfl) (own4.drew.alloc _) ⟨w4.heap.size, 0, none⟩ 1 1 [.int .i64 x1, .int .i64 x2] (by rfl) (by rfl) (news_two w4.drew _ _ _) (by simp [Value.oneCell']) (by have := HM.out.len; simp only [List.length_cons] at this; omega) ?_
              intro W3 own3 g3))
          have hb3 : Below w.heap.size w W3 := (bel4.drew.alloc (by simpa using hsz4) _).grown g3 (by simp; omega) (fun _ e => by cases e; exact Nat.le_refl _)
          have own5 : W3.ownsRow w.heap.size 58 2 (.slice (some ⟨w.heap.size, 0, none⟩) (done ++ [(x1, x2)]).length cap) (done ++ [(x1, x2)]).length (cellsD (done ++ [(x1, x2)])) := by
            rw [cellsD_append, List.length_append, List.length_singleton]; exact own3
          have mid4 : MidJ w xs ys cap ao' (some y) (ca1 - 1) cb1 xs2 ((y1, y2) :: ys2) (done ++ [(x1, x2)]) W3 := by
            refine ⟨RA.out, HM.out.rb, own5, hb3, ?_, by have := HM.out.len; simp only [List.length_append, List.length_cons, List.length_nil] at this ⊢; omega⟩
            rw [← HM.out.all, merge_lt xs2 ys2 HL.out, List.append_assoc]; rfl
          have M4 := Lib.hid mid4
          clear mid4 own3 g3 hb3 own5 own4 bel4 hsz4 hsl hsr
          go_wp2
          go_step3
          exact .inl ⟨rfl, ⟨ao', (some y), ca1 - 1, cb1, xs2, ((y1, y2) :: ys2), (done ++ [(x1, x2)]), M4.out, _, _, _, _, _, _, _, _, _, _, _, _, _, _, _, _, _, _, _, _, _, _, _, _, _, _, _, _, _, _, _, _, _, _, _, _, _, _, _, _, _, _, _, _, _, _, _, _, _, _, _, _, _, _, _, _, _, _, by rw [List.length_append, List.length_singleton]; rfl⟩, (show xs2.length + (ys2.length + 1) < (xs2.length + 1) + (ys2.length + 1) from by omega)⟩
        · have eo : oz = 0 := by rw [← hoz.out]; exact order_zero.2 hlt
          subst eo
          have HL := Lib.hid hlt
          clear hlt
          go_wp2_with fail
          go_region_law
            ((refine step_fits (by rfl) _ _ 23 (by rfl) w.heap.size 58 i0 2 Tryd.underlying23 hi hz1 w.heap.size done.length cap (cellsD done) (by rfl) (own4.drew.alloc _) ⟨w4.heap.size, 0, none⟩ 1 1 [.int .i64 x1, .int .i64 x2] (by rfl) (by rfl) (news_two w4.drew _ _ _) (by simp [Value.oneCell']) (by have := HM.out.len; simp only [List.length_cons] at this; omega) ?_
              intro W3 own3 g3))
          have hb3 : Below w.heap.size w W3 := (bel4.drew.alloc (by simpa using hsz4) _).grown g3 (by simp; omega) (fun _ e => by cases e; exact Nat.le_refl _)
          have own5 : W3.ownsRow w.heap.size 58 2 (.slice (some ⟨w.heap.size, 0, none⟩) (done ++ [(x1, x2)]).length cap) (done ++ [(x1, x2)]).length (cellsD (done ++ [(x1, x2)])) := by
            rw [cellsD_append, List.length_append, List.length_singleton]; exact own3
          have mid4 : MidJ w xs ys cap ao' bo' (ca1 - 1) (cb1 - 1) xs2 ys2 (done ++ [(x1, x2)]) W3 := by
            refine ⟨RA.out, RB.out, own5, hb3, ?_, by have := HM.out.len; simp only [List.length_append, List.length_cons, List.length_nil] at this ⊢; omega⟩
            rw [← HM.out.all, merge_eq xs2 ys2 HL.out, List.append_assoc]; rfl
          have M4 := Lib.hid mid4
          clear mid4 own3 g3 hb3 own5 own4 bel4 hsz4 hsl hsr
          go_wp2
          go_step3
          exact .inl ⟨rfl, ⟨ao', bo', ca1 - 1, cb1 - 1, xs2, ys2, (done ++ [(x1, x2)]), M4.out, _, _, _, _, _, _, _, _, _, _, _, _, _, _, _, _, _, _, _, _, _, _, _, _, _, _, _, _, _, _, _, _, _, _, _, _, _, _, _, _, _, _, _, _, _, _, _, _, _, _, _, _, _, _, _, _, _, _, by rw [List.length_append, List.length_singleton]; rfl⟩, (show xs2.length + ys2.length < (xs2.length + 1) + (ys2.length + 1) from by omega)⟩
        · have eo : oz = 1 := by rw [← hoz.out]; exact order_1 hlt
          subst eo
          have HL := Lib.hid hlt
          clear hlt
          go_wp2_with fail
          go_region_law
            ((refine step_fits (by rfl) _ _ 23 (by rfl) w.heap.size 58 i0 2 Tryd.underlying23 hi hz1 w.heap.size done.length cap (cellsD done) (by rfl) (own4.drew.alloc _) ⟨w4.heap.size, 0, none⟩ 1 1 [.int .i64 y1, .int .i64 y2] (by rfl) (by rfl) (news_two w4.drew _ _ _) (by simp [Value.oneCell']) (by have := HM.out.len; simp only [List.length_cons] at this; omega) ?_
              intro W3 own3 g3))
          have hb3 : Below w.heap.size w W3 := (bel4.drew.alloc (by simpa using hsz4) _).grown g3 (by simp; omega) (fun _ e => by cases e; exact Nat.le_refl _)
          have own5 : W3.ownsRow w.heap.size 58 2 (.slice (some ⟨w.heap.size, 0, none⟩) (done ++ [(y1, y2)]).length cap) (done ++ [(y1, y2)]).length (cellsD (done ++ [(y1, y2)])) := by
            rw [cellsD_append, List.length_append, List.length_singleton]; exact own3
          have mid4 : MidJ w xs ys cap (some x) bo' ca1 (cb1 - 1) ((x1, x2) :: xs2) ys2 (done ++ [(y1, y2)]) W3 := by
            refine ⟨HM.out.ra, RB.out, own5, hb3, ?_, by have := HM.out.len; simp only [List.length_append, List.length_cons, List.length_nil] at this ⊢; omega⟩
            rw [← HM.out.all, merge_gt xs2 ys2 HL.out, List.append_assoc]; rfl
          have M4 := Lib.hid mid4
          clear mid4 own3 g3 hb3 own5 own4 bel4 hsz4 hsl hsr
          go_wp2
          go_step3
          exact .inl ⟨rfl, ⟨(some x), bo', ca1, cb1 - 1, ((x1, x2) :: xs2), ys2, (done ++ [(y1, y2)]), M4.out, _, _, _, _, _, _, _, _, _, _, _, _, _, _, _, _, _, _, _, _, _, _, _, _, _, _, _, _, _, _, _, _, _, _, _, _, _, _, _, _, _, _, _, _, _, _, _, _, _, _, _, _, _, _, _, _, _, _, by rw [List.length_append, List.length_singleton]; rfl⟩, (show (xs2.length + 1) + ys2.length < (xs2.length + 1) + (ys2.length + 1) from by omega)⟩
  · intro again
    go_wp2_with (at_make; refine wpList_make_own _ rfl _ _ 23 rfl w.heap.size 58 i0 (.agg #[.int .i64 0, .int .i64 0]) 2 Tryd.underlying23 hi hz0 hz1 .i64 .i64 _ cap rfl rfl (by have := hcap.out; omega) (by rw [hz2]; have := hcap.out; omega) (by unfold maxLen; have := hcap.out; omega) (Nat.le_refl _) ?_)
    intro w1 hown hg
    go_wp2_with fail
    go_step3
    rename_i hK
    refine hK _ _ (again _ _ ⟨ao, bo, ca, cb, xs, ys, [], ⟨ra, rb, hown, (Below.refl _ _).grown hg (Nat.le_refl _) (fun _ e => by cases e), rfl, by have := hcap.out; simp; omega⟩, _, _, _, _, _, _, _, _, _, _, _, _, _, _, _, _, _, _, _, _, _, _, _, _, _, _, _, _, _, _, _, _, _, _, _, _, _, _, _, _, _, _, _, _, _, _, _, _, _, _, _, _, _, _, _, _, _, _, rfl⟩)
end Go.Proofs.YtkemljpjfbmjgaaDoor.Dp
