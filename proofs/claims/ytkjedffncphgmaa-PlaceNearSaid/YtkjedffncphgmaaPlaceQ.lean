/-
  Contracts: Order: who is nearest to one, first. Conditions: as each theorem says.
-/
import Derived.Test.YtkjedffncphgmaaPlaceF
namespace Go.Proofs.Ytkjedffncphgmaa.Pl
open Go.RowKit

/-- a slice of places lies in memory -/
structure Spots (w : World) (ao : Option Addr) (cap : Nat) (ps : List (Nat × Nat)) : Prop where
  le : ps.length ≤ cap
  capl : cap ≤ maxLen
  lies : ∀ j (h : j < ps.length), ∃ g o, ao = some ⟨g, o, none⟩ ∧ g < w.heap.size ∧ w.cell? ⟨g, o + j, none⟩ = some (.complex .f64 ps[j].1 ps[j].2)

theorem Spots.kept {w w' : World} {ao : Option Addr} {cap : Nat} {ps : List (Nat × Nat)} (h : Spots w ao cap ps) (hb : Below w.heap.size w w') : Spots w' ao cap ps :=
  ⟨h.le, h.capl, fun j hj => by
    obtain ⟨g, o, e, hg, hc⟩ := h.lies j hj
    exact ⟨g, o, e, Nat.lt_of_lt_of_le hg hb.size, (World.cell?_of_block (a := ⟨g, o + j, none⟩) (hb.block g hg)).trans hc⟩⟩

/-- how far each is from one -/
def Fars (ps : List (Nat × Nat)) (m : Nat × Nat) (d : Nat → Nat) : Prop :=
  ∀ i (h : i < ps.length) (W : World), Calls Try.prog 9 #[.complex .f64 ps[i].1 ps[i].2, .complex .f64 m.1 m.2] W fun e w' => e = .returned (.int .u64 (d i : Int)) ∧ W = w'

theorem round_in (n j : Nat) (hj : j < n) (hn : n ≤ 1048576) (w : World) :
    Calls Try.prog 14 #[.int .i64 (n : Int), .int .i64 (j : Int)] w fun e w' => ∃ ao cap, e = .returned (.slice ao (n - 1) cap) ∧ Reads w' ao cap (round n (j + 1)) ∧ Below w.heap.size w w' := by
  have h := round_any n (j + 1) (by omega) hn w
  rw [show (((j + 1 : Nat) : Int) - 1) = (j : Int) by omega] at h
  refine h.mono ?_
  rintro e w' ⟨v, rfl, hown, hb⟩
  obtain ⟨ao, cap, rfl, hr⟩ := Reads.own hown
  have hl : (round n (j + 1)).length = n - 1 := by simp [round, seg_length]; omega
  exact ⟨ao, cap, by rw [hl], hr, hb⟩

theorem round_out (n : Nat) (hn : n ≤ 1048576) (w : World) :
    Calls Try.prog 14 #[.int .i64 (n : Int), .int .i64 (-1)] w fun e w' => ∃ ao cap, e = .returned (.slice ao n cap) ∧ Reads w' ao cap (round n 0) ∧ Below w.heap.size w w' := by
  refine (round_any n 0 (by omega) hn w).mono ?_
  rintro e w' ⟨v, rfl, hown, hb⟩
  obtain ⟨ao, cap, rfl, hr⟩ := Reads.own hown
  have hl : (round n 0).length = n := by simp [round, seg_length]
  exact ⟨ao, cap, by rw [hl], hr, hb⟩

theorem round_mem {n s i : Nat} (hs : s ≤ n) (h : i ∈ round n s) : i < n := by
  simp only [round, seg, List.mem_append, List.mem_map, List.mem_range] at h
  rcases h with ⟨a, h, rfl⟩ | ⟨a, h, rfl⟩ <;> omega

/-- the two boxes that Order's function value holds -/
structure Boxes (w : World) (b c : Nat) (ao : Option Addr) (ca : Nat) (ps : List (Nat × Nat)) (m : Nat × Nat) : Prop where
  list : w.heap[b]? = some (.cells #[.slice ao ps.length ca] 23 (0, 0))
  mine : w.heap[c]? = some (.cells #[.complex .f64 m.1 m.2] 26 (0, 0))
  spots : Spots w ao ca ps

theorem Boxes.kept {w w' : World} {b c : Nat} {ao : Option Addr} {ca : Nat} {ps : List (Nat × Nat)} {m : Nat × Nat} (h : Boxes w b c ao ca ps m) (hb : Below w.heap.size w w') : Boxes w' b c ao ca ps m :=
  ⟨(hb.block b (Array.getElem?_eq_some_iff.1 h.list).1).trans h.list, (hb.block c (Array.getElem?_eq_some_iff.1 h.mine).1).trans h.mine, h.spots.kept hb⟩

theorem tells_any {w : World} {b c : Nat} {ao : Option Addr} {ca : Nat} {ps : List (Nat × Nat)} {m : Nat × Nat} {d : Nat → Nat} (h : Boxes w b c ao ca ps m) (hd : Fars ps m d) (xs : List Nat) (hx : ∀ i ∈ xs, i < ps.length) :
    Tells #[] #[.pointer (some ⟨b, 0, none⟩), .pointer (some ⟨c, 0, none⟩)] d w xs := by
  intro i hi W hb
  have h' := h.kept hb
  have hin := hx i hi
  have hf := hd i hin W.drew
  have c1 : W.cell? ⟨b, 0, none⟩ = some (.slice ao ps.length ca) := by rw [cell_of_row W b 0 _ _ (0, 0) h'.list]; rfl
  have c2 : W.cell? ⟨c, 0, none⟩ = some (.complex .f64 m.1 m.2) := by rw [cell_of_row W c 0 _ _ (0, 0) h'.mine]; rfl
  obtain ⟨g, o, rfl, hg, hc⟩ := h'.spots.lies i hin
  clear h h' hd hx hi hb
  generalize ps[i].1 = px at *
  generalize ps[i].2 = py at *
  have i0 : (0 : Int) ≤ (i : Int) := by omega
  have i1 : (i : Int) < (ps.length : Int) := by omega
  have HF := Lib.hid hf
  clear hf
  show Calls Try.prog 15 #[.int .i64 (i : Int), .pointer (some ⟨b, 0, none⟩), .pointer (some ⟨c, 0, none⟩)] W _
  go_enter Try.func15, Try.ntmps15
  go_wp2_with fail
  go_region_held3 (fun w' => w'.cell? ⟨b, 0, none⟩ = some (.slice (some ⟨g, o, none⟩) ps.length ca) ∧ w'.cell? ⟨c, 0, none⟩ = some (.complex .f64 m.1 m.2) ∧ w'.cell? ⟨g, o + i, none⟩ = some (.complex .f64 px py)) (go_keep) (first
    | (go_at_call 9
       refine HF.out.mono ?_
       rintro e w' ⟨rfl, rfl⟩))
  go_wp2
  go_ret
  exact ⟨rfl, rfl⟩

theorem order_in (ps : List (Nat × Nat)) (j : Nat) (hj : j < ps.length) (d : Nat → Nat) (hl : ps.length ≤ 1048576) (hd : Fars ps ps[j] d) (ao : Option Addr) (ca : Nat) (w : World) (hs : Spots w ao ca ps) :
    Calls Try.prog 10 #[.slice ao ps.length ca, .int .i64 (j : Int)] w fun e w' => ∃ v cv, e = .returned (.slice v (ps.length - 1) cv) ∧ Reads w' v cv (nf d ps.length (round ps.length (j + 1))) ∧ Below w.heap.size w w' := by
  have hl2 : (round ps.length (j + 1)).length = ps.length - 1 := by simp [round, seg_length]; omega
  obtain ⟨g, o, rfl, hg, hc⟩ := hs.lies j hj
  obtain ⟨mx, my, hm⟩ : ∃ mx my, ps[j] = (mx, my) := ⟨_, _, rfl⟩
  rw [hm] at hd hc
  have hst := fun a m W => run_store Try.prog W a (.complex .f64 mx my) m rfl
  go_enter Try.func10, Try.ntmps10
  go_wp2_with fail
  have h0 : ((w.alloc (.cells #[.slice (some ⟨g, o, none⟩) ps.length ca] 23)).alloc (.cells #[.complex .f64 mx my] 26)).heap[w.heap.size]? = some (.cells #[.slice (some ⟨g, o, none⟩) ps.length ca] 23 (0, 0)) := by
    rw [heap_alloc_old]
    · exact heap_alloc_new _ _
    · simp
  have h1 : ((w.alloc (.cells #[.slice (some ⟨g, o, none⟩) ps.length ca] 23)).alloc (.cells #[.complex .f64 mx my] 26)).heap[w.heap.size + 1]? = some (.cells #[.complex .f64 mx my] 26 (0, 0)) := by
    have := heap_alloc_new (w.alloc (.cells #[.slice (some ⟨g, o, none⟩) ps.length ca] 23)) (.cells #[.complex .f64 mx my] 26)
    simpa using this
  have hb : Below w.heap.size w ((w.alloc (.cells #[.slice (some ⟨g, o, none⟩) ps.length ca] 23)).alloc (.cells #[.complex .f64 mx my] 26)) := ((Below.refl _ _).alloc (Nat.le_refl _) _).alloc (by simp) _
  generalize (w.alloc (.cells #[.slice (some ⟨g, o, none⟩) ps.length ca] 23)).alloc (.cells #[.complex .f64 mx my] 26) = w1 at *
  refine (round_in ps.length j hj hl _).mono ?_
  rintro e w2 ⟨ao, cap, rfl, hr, hb2⟩
  have hB : Boxes w1 w.heap.size (w.heap.size + 1) (some ⟨g, o, none⟩) ca ps (mx, my) := ⟨h0, h1, hs.kept hb⟩
  have hn := nearest_any d #[] #[.pointer (some ⟨w.heap.size, 0, none⟩), .pointer (some ⟨w.heap.size + 1, 0, none⟩)] w1 ps.length (round ps.length (j + 1)) (by rw [hl2]; omega) (by rw [hl2]; omega) ao cap w2 hb2 (tells_any hB hd _ fun i hi => round_mem (by omega) hi) hr
  rw [hl2] at hn
  have HN := Lib.hid hn
  have HB := Lib.hid (hb.trans (hb2.mono hb.size))
  clear hB hn hb hb2 hr hd hs h0 h1
  go_wp2_with fail
  refine HN.out.mono ?_
  rintro e w3 ⟨v, cv, rfl, hr3, hb3⟩
  have hz := HB.out.size
  go_wp2
  go_ret
  exact ⟨_, _, rfl, hr3, HB.out.trans (hb3.mono hz)⟩

theorem order_out (ps : List (Nat × Nat)) (me : Int) (hm : me < 0 ∨ ps.length ≤ me) (d : Nat → Nat) (hl : ps.length ≤ 1048576) (hd : Fars ps (0, 0) d) (ai : Option Addr) (ca : Nat) (w : World) (hs : Spots w ai ca ps) :
    Calls Try.prog 10 #[.slice ai ps.length ca, .int .i64 me] w fun e w' => ∃ v cv, e = .returned (.slice v ps.length cv) ∧ Reads w' v cv (nf d ps.length (round ps.length 0)) ∧ Below w.heap.size w w' := by
  have hl2 : (round ps.length 0).length = ps.length := by simp [round, seg_length]
  rcases hm with hm | hm
  · have q1 : ¬ (0 ≤ me) := by omega
    go_enter Try.func10, Try.ntmps10
    go_wp2_with fail
    have h0 : ((w.alloc (.cells #[.slice ai ps.length ca] 23)).alloc (.cells #[.complex .f64 0 0] 26)).heap[w.heap.size]? = some (.cells #[.slice ai ps.length ca] 23 (0, 0)) := by
      rw [heap_alloc_old]
      · exact heap_alloc_new _ _
      · simp
    have h1 : ((w.alloc (.cells #[.slice ai ps.length ca] 23)).alloc (.cells #[.complex .f64 0 0] 26)).heap[w.heap.size + 1]? = some (.cells #[.complex .f64 0 0] 26 (0, 0)) := by
      have := heap_alloc_new (w.alloc (.cells #[.slice ai ps.length ca] 23)) (.cells #[.complex .f64 0 0] 26)
      simpa using this
    have hb : Below w.heap.size w ((w.alloc (.cells #[.slice ai ps.length ca] 23)).alloc (.cells #[.complex .f64 0 0] 26)) := ((Below.refl _ _).alloc (Nat.le_refl _) _).alloc (by simp) _
    generalize (w.alloc (.cells #[.slice ai ps.length ca] 23)).alloc (.cells #[.complex .f64 0 0] 26) = w1 at *
    refine (round_out ps.length hl _).mono ?_
    rintro e w2 ⟨ao, cap, rfl, hr, hb2⟩
    have hB : Boxes w1 w.heap.size (w.heap.size + 1) ai ca ps (0, 0) := ⟨h0, h1, hs.kept hb⟩
    have hn := nearest_any d #[] #[.pointer (some ⟨w.heap.size, 0, none⟩), .pointer (some ⟨w.heap.size + 1, 0, none⟩)] w1 ps.length (round ps.length 0) (by rw [hl2]; omega) (by rw [hl2]; omega) ao cap w2 hb2 (tells_any hB hd _ fun i hi => round_mem (by omega) hi) hr
    rw [hl2] at hn
    have HN := Lib.hid hn
    have HB := Lib.hid (hb.trans (hb2.mono hb.size))
    clear hB hn hb hb2 hr hd hs h0 h1
    go_wp2_with fail
    refine HN.out.mono ?_
    rintro e w3 ⟨v, cv, rfl, hr3, hb3⟩
    have hz := HB.out.size
    go_wp2
    go_ret
    exact ⟨_, _, rfl, hr3, HB.out.trans (hb3.mono hz)⟩
  · have q1 : 0 ≤ me := by omega
    have q2 : ¬ (me < (ps.length : Int)) := by omega
    go_enter Try.func10, Try.ntmps10
    go_wp2_with fail
    have h0 : ((w.alloc (.cells #[.slice ai ps.length ca] 23)).alloc (.cells #[.complex .f64 0 0] 26)).heap[w.heap.size]? = some (.cells #[.slice ai ps.length ca] 23 (0, 0)) := by
      rw [heap_alloc_old]
      · exact heap_alloc_new _ _
      · simp
    have h1 : ((w.alloc (.cells #[.slice ai ps.length ca] 23)).alloc (.cells #[.complex .f64 0 0] 26)).heap[w.heap.size + 1]? = some (.cells #[.complex .f64 0 0] 26 (0, 0)) := by
      have := heap_alloc_new (w.alloc (.cells #[.slice ai ps.length ca] 23)) (.cells #[.complex .f64 0 0] 26)
      simpa using this
    have hb : Below w.heap.size w ((w.alloc (.cells #[.slice ai ps.length ca] 23)).alloc (.cells #[.complex .f64 0 0] 26)) := ((Below.refl _ _).alloc (Nat.le_refl _) _).alloc (by simp) _
    generalize (w.alloc (.cells #[.slice ai ps.length ca] 23)).alloc (.cells #[.complex .f64 0 0] 26) = w1 at *
    refine (round_out ps.length hl _).mono ?_
    rintro e w2 ⟨ao, cap, rfl, hr, hb2⟩
    have hB : Boxes w1 w.heap.size (w.heap.size + 1) ai ca ps (0, 0) := ⟨h0, h1, hs.kept hb⟩
    have hn := nearest_any d #[] #[.pointer (some ⟨w.heap.size, 0, none⟩), .pointer (some ⟨w.heap.size + 1, 0, none⟩)] w1 ps.length (round ps.length 0) (by rw [hl2]; omega) (by rw [hl2]; omega) ao cap w2 hb2 (tells_any hB hd _ fun i hi => round_mem (by omega) hi) hr
    rw [hl2] at hn
    have HN := Lib.hid hn
    have HB := Lib.hid (hb.trans (hb2.mono hb.size))
    clear hB hn hb hb2 hr hd hs h0 h1
    go_wp2_with fail
    refine HN.out.mono ?_
    rintro e w3 ⟨v, cv, rfl, hr3, hb3⟩
    have hz := HB.out.size
    go_wp2
    go_ret
    exact ⟨_, _, rfl, hr3, HB.out.trans (hb3.mono hz)⟩
end Go.Proofs.Ytkjedffncphgmaa.Pl
