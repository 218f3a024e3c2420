/-
  Contracts: nearestFirst: the list by halves, the least far first. Conditions: as each theorem says.
-/
import Derived.Test.YtkjedffncphgmaaPlaceN
namespace Go.Proofs.Ytkjedffncphgmaa.Pl
open Go.RowKit

/-- by halves -/
def nf (d : Nat → Nat) : Nat → List Nat → List Nat
  | 0, xs => xs
  | f + 1, xs => if xs.length < 2 then xs else mg d (nf d f (xs.take (xs.length / 2))) (nf d f (xs.drop (xs.length / 2)))

theorem mg_length (d : Nat → Nat) (xs ys : List Nat) : (mg d xs ys).length = xs.length + ys.length := by
  unfold mg
  exact List.length_merge ..
theorem mg_mem (d : Nat → Nat) {xs ys : List Nat} {i : Nat} (h : i ∈ mg d xs ys) : i ∈ xs ∨ i ∈ ys := by
  unfold mg at h
  exact List.mem_merge.1 h

theorem nf_length (d : Nat → Nat) : ∀ (f : Nat) (xs : List Nat), (nf d f xs).length = xs.length
  | 0, xs => rfl
  | f + 1, xs => by
    unfold nf
    split
    · rfl
    · rw [mg_length, nf_length, nf_length, List.length_take, List.length_drop]
      omega

theorem nf_mem (d : Nat → Nat) : ∀ (f : Nat) (xs : List Nat) (i : Nat), i ∈ nf d f xs → i ∈ xs
  | 0, xs, i, h => h
  | f + 1, xs, i, h => by
    unfold nf at h
    split at h
    · exact h
    · rcases mg_mem d h with h | h
      · exact List.mem_of_mem_take (nf_mem d f _ i h)
      · exact List.mem_of_mem_drop (nf_mem d f _ i h)

/-- 'l[:h]' -/
theorem Reads.front {w : World} {ao : Option Addr} {cap : Nat} {xs : List Nat} (h : Reads w ao cap xs) (k : Nat) (hk : k ≤ xs.length) :
    ∃ ao', (∀ W : World, (Instr.slice 31 (.slice ao xs.length cap) none (some (.int .i64 (k : Int))) none).run Try.prog W = .ok (.slice ao' k cap) W) ∧ Reads w ao' cap (xs.take k) := by
  have hle := h.le
  refine ⟨if cap = 0 then ao else ao.map (·.add (0 * 1)), fun W => ?_, ?_⟩
  · rw [run_slice_h W 31 ao xs.length cap Try.underlying31 .i64 (k : Int) (by omega) (by omega)]
    obtain ⟨i0, hi, hz0, hz1, hz2⟩ := info_parts (P := Try.prog) (e := 3) (z := .int .i64 0) (size := 1) (bytes := 8) (by kernel_rfl)
    have he : Try.prog.elem 31 = 3 := by kernel_rfl
    rw [he]
    simp [sizeOf, typeInfo, hi, hz1, Result.andThen, sliced]
  · refine ⟨by rw [List.length_take]; omega, h.capl, fun e => ?_, fun j hj => ?_⟩
    · by_cases hc : cap = 0
      · exact hc
      · rw [if_neg hc] at e
        exact h.empty (by cases ao <;> simp_all)
    · rw [List.length_take] at hj
      obtain ⟨g, o, e, hg, hc⟩ := h.lies j (by omega)
      rw [if_neg (by omega)]
      refine ⟨g, o, by rw [e]; simp [Addr.add_lit], hg, ?_⟩
      rw [List.getElem_take]
      exact hc

/-- 'l[h:]' -/
theorem Reads.back {w : World} {ao : Option Addr} {cap : Nat} {xs : List Nat} (h : Reads w ao cap xs) (k : Nat) (hk : k ≤ xs.length) :
    ∃ ao', (∀ W : World, (Instr.slice 31 (.slice ao xs.length cap) (some (.int .i64 (k : Int))) none none).run Try.prog W = .ok (.slice ao' (xs.length - k) (cap - k)) W) ∧ Reads w ao' (cap - k) (xs.drop k) := by
  have hle := h.le
  refine ⟨if cap = k then ao else ao.map (·.add (k * 1)), fun W => ?_, ?_⟩
  · rw [run_slice_l W 31 ao xs.length cap Try.underlying31 .i64 (k : Int) (by omega) (by omega)]
    obtain ⟨i0, hi, hz0, hz1, hz2⟩ := info_parts (P := Try.prog) (e := 3) (z := .int .i64 0) (size := 1) (bytes := 8) (by kernel_rfl)
    have he : Try.prog.elem 31 = 3 := by kernel_rfl
    rw [he]
    simp [sizeOf, typeInfo, hi, hz1, Result.andThen, sliced]
  · refine ⟨by rw [List.length_drop]; omega, by have := h.capl; omega, fun e => ?_, fun j hj => ?_⟩
    · by_cases hc : cap = k
      · omega
      · rw [if_neg hc] at e
        have := h.empty (by cases ao <;> simp_all)
        omega
    · rw [List.length_drop] at hj
      obtain ⟨g, o, e, hg, hc⟩ := h.lies (k + j) (by omega)
      rw [if_neg (by omega)]
      refine ⟨g, o + k, by rw [e]; simp [Addr.add_lit], hg, ?_⟩
      rw [List.getElem_drop, Nat.add_assoc]
      exact hc

set_option maxRecDepth 100000 in
set_option maxHeartbeats 4000000 in
theorem nearest_any (d : Nat → Nat) (f1 cp : Array Value) (w0 : World) : ∀ (f : Nat) (xs : List Nat) (_ : xs.length ≤ f) (_ : xs.length ≤ 1048576) (ao : Option Addr) (ca : Nat) (w : World) (_ : Below w0.heap.size w0 w)
    (_ : Tells f1 cp d w0 xs) (_ : Reads w ao ca xs),
    Calls Try.prog 13 #[.slice ao xs.length ca, .func (.func 15) f1 cp] w fun e w' => ∃ v cv, e = .returned (.slice v xs.length cv) ∧ Reads w' v cv (nf d f xs) ∧ Below w.heap.size w w' := by
  intro f
  induction f with
  | zero =>
    intro xs hf hx ao ca w hb ht hr
    go_enter Try.func13, Try.ntmps13
    go_wp2
    go_ret
    exact ⟨_, _, rfl, hr, Below.refl _ _⟩
  | succ f ih =>
    intro xs hf hx ao ca w hb ht hr
    by_cases h2 : xs.length < 2
    · have e : nf d (f + 1) xs = xs := by unfold nf; rw [if_pos h2]
      rw [e]
      go_enter Try.func13, Try.ntmps13
      go_wp2
      go_ret
      exact ⟨_, _, rfl, hr, Below.refl _ _⟩
    · have e : nf d (f + 1) xs = mg d (nf d f (xs.take (xs.length / 2))) (nf d f (xs.drop (xs.length / 2))) := by
        conv => lhs; unfold nf
        rw [if_neg h2]
      rw [e]
      obtain ⟨h, hh⟩ : ∃ h, xs.length / 2 = h := ⟨_, rfl⟩
      have hd : (xs.length : Int) / 2 = (h : Int) := by omega
      obtain ⟨a1, s1, r1⟩ := hr.front h (by omega)
      obtain ⟨a2, s2, r2⟩ := hr.back h (by omega)
      rw [hh]
      have hle : h ≤ xs.length := by omega
      have l1 : (xs.take h).length = h := by rw [List.length_take]; omega
      have l2 : (xs.drop h).length = xs.length - h := List.length_drop ..
      have i1 := fun w hb hr => ih (xs.take h) (by omega) (by omega) a1 ca w hb (fun i hi => ht i (List.mem_of_mem_take hi)) hr
      have i2 := fun w hb hr => ih (xs.drop h) (by omega) (by omega) a2 (ca - h) w hb (fun i hi => ht i (List.mem_of_mem_drop hi)) hr
      have k1 : (nf d f (xs.take h)).length = h := by rw [nf_length, l1]
      have k2 : (nf d f (xs.drop h)).length = xs.length - h := by rw [nf_length, l2]
      have t1 : Tells f1 cp d w0 (nf d f (xs.take h)) := fun i hi => ht i (List.mem_of_mem_take (nf_mem d f _ i hi))
      have t2 : Tells f1 cp d w0 (nf d f (xs.drop h)) := fun i hi => ht i (List.mem_of_mem_drop (nf_mem d f _ i hi))
      rw [l1] at i1
      rw [l2] at i2
      obtain ⟨X, hX⟩ : ∃ X, nf d f (xs.take h) = X := ⟨_, rfl⟩
      obtain ⟨Y, hY⟩ : ∃ Y, nf d f (xs.drop h) = Y := ⟨_, rfl⟩
      rw [hX] at k1 t1 i1 ⊢
      rw [hY] at k2 t2 i2 ⊢
      have mr := fun (w : World) (hb : Below w0.heap.size w0 w) (ao bo : Option Addr) (ca cb : Nat) ra rb => merge_any d f1 cp w0 ao bo ca cb X Y (by omega) (by omega) w hb t1 t2 ra rb
      rw [k1, k2, Nat.add_sub_cancel' hle] at mr
      have MR := Lib.hid mr
      have HR1 := Lib.hid r1
      have HR2 := Lib.hid r2
      have I1 := Lib.hid i1
      have I2 := Lib.hid i2
      have K1 := Lib.hid k1
      have K2 := Lib.hid k2
      have HB := Lib.hid hb
      clear i1 i2 k1 k2 l1 l2 hh e hb mr r1 r2 t1 t2 ih
      go_enter Try.func13, Try.ntmps13
      go_wp2_with fail
      go_region_held3 (fun _ => True) (trivial) (first
        | (go_at_call 13
           refine (I2.out _ (HB.out.trans (b1'.mono HB.out.size)) (HR2.out.kept b1')).mono ?_
           rintro e w2 ⟨v2, c2, rfl, q2, b2⟩
           have b2' := b1'.trans (b2.mono b1'.size))
        | (go_at_call 13
           refine (I1.out _ HB.out.drew (HR1.out.kept (Below.refl _ _).drew)).mono ?_
           rintro e w1 ⟨v1, c1, rfl, q1, b1⟩
           have b1' : Below w.heap.size w w1 := (Below.refl w.heap.size w).drew.trans b1)
        | (go_at_call 17
           refine (MR.out _ (HB.out.trans (b2'.mono HB.out.size)) _ _ _ _ (q1.kept b2) q2).mono ?_
           rintro e w3 ⟨v3, c3, rfl, q3, b3⟩
           have b3' := b2'.trans (b3.mono b2'.size)))
      go_wp2
      go_ret
      exact ⟨_, _, rfl, q3, b3'⟩
end Go.Proofs.Ytkjedffncphgmaa.Pl
