/-
  Contracts of package ballot and of the document's own answer: a ballot read off bytes.
-/
import Derived.Test.YthmadcmoendndaaDoorBalV
import Derived.Test.YthmadcmoendndaaDoorBalP
namespace Go.Proofs.YthmadcmoendndaaDoor.Bl
open Go.RowKit
open Pk (bcell scope_ahead numB number)

/-- what Get comes by, and what it answers -/
theorem get_way (s : ByteArray) (b : Bool) (x y : Int) (t : ByteArray) (c : Bool) (h : getB s b = (x, y, t, c)) :
    ∃ (n m : Nat) (y1 y2 : ByteArray) (z1 z2 p : Bool), number s b 4 = (n, y1, z1) ∧ number y1 z1 1 = (m, y2, z2) ∧ n < 4294967296 ∧ m < 256 ∧ y1.size ≤ s.size ∧ y2.size ≤ s.size ∧ rightB n m = p ∧
      ((z2 = false ∧ p = true ∧ x = n ∧ y = m ∧ t = y2 ∧ c = false) ∨ ((z2 = true ∨ (z2 = false ∧ p = false)) ∧ x = 0 ∧ y = 0 ∧ t = ⟨#[]⟩ ∧ c = true)) := by
  obtain ⟨n, y1, z1, h1⟩ : ∃ n y1 z1, number s b 4 = (n, y1, z1) := ⟨_, _, _, rfl⟩
  obtain ⟨m, y2, z2, h2⟩ : ∃ m y2 z2, number y1 z1 1 = (m, y2, z2) := ⟨_, _, _, rfl⟩
  have l1 := Pk.number_lt s b 4
  have l2 := Pk.number_lt y1 z1 1
  have k1 := Pk.number_size s b 4
  have k2 := Pk.number_size y1 z1 1
  rw [show ((4 : Nat) : Int) = 4 from rfl, h1] at l1
  rw [show ((1 : Nat) : Int) = 1 from rfl, h2] at l2
  rw [h1] at k1
  rw [h2] at k2
  simp only at l1 l2 k1 k2
  rw [getB_of _ _ _ _ _ _ _ _ h1 h2] at h
  refine ⟨n, m, y1, y2, z1, z2, rightB n m, h1, h2, by omega, by omega, k1, by omega, rfl, ?_⟩
  by_cases hc : z2 = false ∧ rightB n m = true
  · rw [if_pos hc] at h
    simp only [Prod.mk.injEq] at h
    exact .inl ⟨hc.1, hc.2, h.1.symm, h.2.1.symm, h.2.2.1.symm, h.2.2.2.symm⟩
  · rw [if_neg hc] at h
    simp only [Prod.mk.injEq] at h
    refine .inr ⟨?_, h.1.symm, h.2.1.symm, h.2.2.1.symm, h.2.2.2.symm⟩
    cases z2
    · right
      refine ⟨rfl, ?_⟩
      cases hp : rightB n m
      · rfl
      · exact absurd ⟨rfl, hp⟩ hc
    · exact .inl rfl

/-- three blocks: the reader's, those of the two results -/
def Got (w : World) (y : ByteArray) (z : Bool) (W : World) : Prop :=
  Pair W w.heap.size (.string y) (.bool z) ∧ Pair W (w.heap.size + 1) (.int .u32 0) (.int .i64 0) ∧ Pair W (w.heap.size + 1 + 1) (.string ⟨#[]⟩) (.bool false) ∧ Below w.heap.size w W
section
variable {w W W' : World} {y y' : ByteArray} {z z' : Bool}
theorem Got.put (h : Got w y z W) (y' : ByteArray) (z' : Bool) : Got w y' z' ((W.setCell ⟨w.heap.size, 0, none⟩ (.string y')).setCell ⟨w.heap.size, 1, none⟩ (.bool z')) :=
  ⟨h.1.put _ _, h.2.1.far2 w.heap.size (by simp) _ _, h.2.2.1.far2 w.heap.size (by simp; omega) _ _, below_set2 h.2.2.2 (Nat.le_refl _) _ _⟩
theorem Got.over (h : Got w y z W) (hb : Below W.heap.size W W') : Got w y z W' :=
  ⟨h.1.over hb, h.2.1.over hb, h.2.2.1.over hb, below_then h.2.2.2 hb (Nat.le_of_lt h.1.1)⟩
theorem Got.alloc (h : Got w y z W) (o : Obj) : Got w y z (W.alloc o) := h.over (below_1 _ _)
theorem Got.fin (h : Got w y z W) (a b c d : Value) : Below w.heap.size w ((((W.setCell ⟨w.heap.size + 1, 0, none⟩ a).setCell ⟨w.heap.size + 1, 1, none⟩ b).setCell ⟨w.heap.size + 1 + 1, 0, none⟩ c).setCell ⟨w.heap.size + 1 + 1, 1, none⟩ d) :=
  below_set2 (below_set2 h.2.2.2 (Nat.le_succ _) _ _) (by omega) _ _
end

set_option maxHeartbeats 1000000 in
theorem get_any (s : ByteArray) (b : Bool) (x y : Int) (t : ByteArray) (c : Bool) (h : getB s b = (x, y, t, c)) (hs : s.size ≤ maxLen) (w : World) :
    Calls Tryd.prog 13 #[.agg #[.string s, .bool b]] w fun e w' => e = .returned (.tuple #[.agg #[.int .u32 x, .int .i64 y], .agg #[.string t, .bool c]]) ∧ Below w.heap.size w w' := by
  obtain ⟨n, m, y1, y2, z1, z2, p, h1, h2, l1, l2, k1, k2, hp, hw⟩ := get_way s b x y t c h
  have H1 := Lib.hid h1
  have H2 := Lib.hid h2
  have HP := Lib.hid hp
  have hy1 : y1.size ≤ maxLen := Nat.le_trans k1 hs
  have c1 : IntKind.u32.wrap (n : Int) = (n : Int) := by
    have e : ∀ m : Int, IntKind.u32.wrap m = m % 4294967296 := fun m => by simp [IntKind.wrap, IntKind.bits, IntKind.signed]
    rw [e]; omega
  have c2 : IntKind.i64.wrap (m : Int) = (m : Int) := Go.IntWalk.i64_in _ (by omega)
  clear h h1 h2 hp k1 k2
  go_enter Tryd.func13, Tryd.ntmps13
  go_wp2
  refine scope_ahead 0 rfl ?_
  go_wp2_with fail
  refine (Pk.number_any s b 4 n y1 z1 H1.out hs _).mono ?_
  rintro e w1 ⟨rfl, hb⟩
  have hG : Got w s b w1 := three hb
  clear hb
  have ⟨A0, A1, A2, A3, A4⟩ := hG.1
  go_wp2_with fail
  have hG' := hG.put y1 z1
  clear A0 A1 A2 A3 A4 hG
  generalize (w1.setCell ⟨w.heap.size, 0, none⟩ (.string y1)).setCell ⟨w.heap.size, 1, none⟩ (.bool z1) = W at *
  refine (Pk.number_any y1 z1 1 m y2 z2 H2.out hy1 _).mono ?_
  rintro e w2 ⟨rfl, hb⟩
  have hG := hG'.over hb
  clear hb hG'
  have ⟨A0, A1, A2, A3, A4⟩ := hG.1
  have hlt := hG.2.2.1.1
  rcases hw with ⟨rfl, rfl, rfl, rfl, rfl, rfl⟩ | ⟨rfl | ⟨rfl, rfl⟩, rfl, rfl, rfl, rfl⟩
  · go_wp2_with fail
    have hG' := (hG.put t false).alloc (.cells #[.int .u32 (n : Int), .int .i64 (m : Int)] 24)
    have hn := Pair.newAt ((w2.setCell ⟨w.heap.size, 0, none⟩ (.string t)).setCell ⟨w.heap.size, 1, none⟩ (.bool false)) (.int .u32 (n : Int)) (.int .i64 (m : Int)) 24 w2.heap.size (by simp)
    clear A0 A1 A2 A3 A4 hG
    generalize (((w2.setCell ⟨w.heap.size, 0, none⟩ (.string t)).setCell ⟨w.heap.size, 1, none⟩ (.bool false)).alloc (.cells #[.int .u32 (n : Int), .int .i64 (m : Int)] 24)) = W3 at *
    generalize w2.heap.size = g at *
    refine (right_any n m true HP.out _).mono ?_
    rintro e w4 ⟨rfl, hb⟩
    have hG := hG'.over hb
    have hn4 := hn.over hb
    clear hb hG' hn
    have ⟨A0, A1, A2, A3, A4⟩ := hG.1
    have ⟨D0, D1, D2, D3, D4⟩ := hG.2.1
    have ⟨R0, R1, R2, R3, R4⟩ := hG.2.2.1
    have ⟨N0, N1, N2, N3, N4⟩ := hn4
    go_wp2
    go_region
    go_wp2
    simp only [Exit.jump]
    have hE := (hG.fin (.int .u32 (n : Int)) (.int .i64 (m : Int)) (.string t) (.bool false)).drew
    exact bodyPost_ret (v := .tuple #[.agg #[.int .u32 (n : Int), .int .i64 (m : Int)], .agg #[.string t, .bool false]]) (by simp [results, Tryd.results13, go_sem, D1, D2, R1, R2]) rfl ⟨rfl, hE⟩
  · go_wp2_with fail
    have hG' := (hG.put y2 true).alloc (.cells #[.int .u32 (n : Int), .int .i64 (m : Int)] 24)
    clear A0 A1 A2 A3 A4 hG
    generalize (((w2.setCell ⟨w.heap.size, 0, none⟩ (.string y2)).setCell ⟨w.heap.size, 1, none⟩ (.bool true)).alloc (.cells #[.int .u32 (n : Int), .int .i64 (m : Int)] 24)) = W3 at *
    generalize w2.heap.size = g at *
    have ⟨D0, D1, D2, D3, D4⟩ := hG'.2.1
    have ⟨R0, R1, R2, R3, R4⟩ := hG'.2.2.1
    go_step3
    refine ⟨rfl, ?_⟩
    go_wp2
    rw [Exit.noGoto_ret]
    have hE := hG'.fin (.int .u32 0) (.int .i64 0) (.string ⟨#[]⟩) (.bool true)
    exact bodyPost_ret (v := .tuple #[.agg #[.int .u32 0, .int .i64 0], .agg #[.string ⟨#[]⟩, .bool true]]) (by simp [results, Tryd.results13, go_sem, D1, D2, R1, R2]) rfl ⟨rfl, hE⟩
  · go_wp2_with fail
    have hG' := (hG.put y2 false).alloc (.cells #[.int .u32 (n : Int), .int .i64 (m : Int)] 24)
    have hn := Pair.newAt ((w2.setCell ⟨w.heap.size, 0, none⟩ (.string y2)).setCell ⟨w.heap.size, 1, none⟩ (.bool false)) (.int .u32 (n : Int)) (.int .i64 (m : Int)) 24 w2.heap.size (by simp)
    clear A0 A1 A2 A3 A4 hG
    generalize (((w2.setCell ⟨w.heap.size, 0, none⟩ (.string y2)).setCell ⟨w.heap.size, 1, none⟩ (.bool false)).alloc (.cells #[.int .u32 (n : Int), .int .i64 (m : Int)] 24)) = W3 at *
    generalize w2.heap.size = g at *
    refine (right_any n m false HP.out _).mono ?_
    rintro e w4 ⟨rfl, hb⟩
    have hG := hG'.over hb
    have hn4 := hn.over hb
    clear hb hG' hn
    have ⟨D0, D1, D2, D3, D4⟩ := hG.2.1
    have ⟨R0, R1, R2, R3, R4⟩ := hG.2.2.1
    go_wp2_with fail
    go_step3
    refine ⟨rfl, ?_⟩
    go_wp2
    rw [Exit.noGoto_ret]
    have hE := hG.fin (.int .u32 0) (.int .i64 0) (.string ⟨#[]⟩) (.bool true)
    exact bodyPost_ret (v := .tuple #[.agg #[.int .u32 0, .int .i64 0], .agg #[.string ⟨#[]⟩, .bool true]]) (by simp [results, Tryd.results13, go_sem, D1, D2, R1, R2]) rfl ⟨rfl, hE⟩

set_option maxHeartbeats 1000000 in
theorem refget_any (s : ByteArray) (b : Bool) (x y : Int) (t : ByteArray) (c : Bool) (h : getB s b = (x, y, t, c)) (hs : s.size ≤ maxLen) (w : World) :
    Calls Tryd.prog 14 #[.agg #[.string s, .bool b]] w fun e w' => e = .returned (.tuple #[.agg #[.int .u32 x, .int .i64 y], .agg #[.string t, .bool c]]) ∧ Below w.heap.size w w' := by
  obtain ⟨n, m, y1, y2, z1, z2, p, h1, h2, l1, l2, k1, k2, hp, hw⟩ := get_way s b x y t c h
  have H1 := Lib.hid h1
  have H2 := Lib.hid h2
  have HP := Lib.hid hp
  have hy1 : y1.size ≤ maxLen := Nat.le_trans k1 hs
  have c1 : IntKind.u32.wrap (n : Int) = (n : Int) := by
    have e : ∀ m : Int, IntKind.u32.wrap m = m % 4294967296 := fun m => by simp [IntKind.wrap, IntKind.bits, IntKind.signed]
    rw [e]; omega
  have c2 : IntKind.i64.wrap (m : Int) = (m : Int) := Go.IntWalk.i64_in _ (by omega)
  clear h h1 h2 hp k1 k2
  go_enter Tryd.func14, Tryd.ntmps14
  go_wp2_with fail
  refine (Pk.refnumber_any s b 4 n y1 z1 H1.out hs _).mono ?_
  rintro e w1 ⟨rfl, hb⟩
  have hG : Got w s b w1 := three hb
  clear hb
  go_wp2_with fail
  have hG' := hG.alloc (.cells #[.string y1, .bool z1] 36)
  have h5 := Pair.new w1 (.string y1) (.bool z1) 36
  clear hG
  generalize w1.alloc (.cells #[.string y1, .bool z1] 36) = W at *
  generalize w1.heap.size = g5 at *
  refine (Pk.refnumber_any y1 z1 1 m y2 z2 H2.out hy1 _).mono ?_
  rintro e w2 ⟨rfl, hb⟩
  have hG := hG'.over hb
  clear hb hG' h5
  go_wp2_with fail
  have hG' := (hG.alloc (.cells #[.string y2, .bool z2] 36)).alloc (.cells #[.int .u32 (n : Int), .int .i64 (m : Int)] 30)
  have h7 := (Pair.new w2 (.string y2) (.bool z2) 36).alloc (.cells #[.int .u32 (n : Int), .int .i64 (m : Int)] 30)
  have h8 := Pair.newAt (w2.alloc (.cells #[.string y2, .bool z2] 36)) (.int .u32 (n : Int)) (.int .i64 (m : Int)) 30 (w2.heap.size + 1) (by simp)
  have hlt := hG.2.2.1.1
  clear hG
  generalize (w2.alloc (.cells #[.string y2, .bool z2] 36)).alloc (.cells #[.int .u32 (n : Int), .int .i64 (m : Int)] 30) = W3 at *
  generalize w2.heap.size = g at *
  refine (refright_any n m p HP.out (by omega) _).mono ?_
  rintro e w4 ⟨rfl, hb⟩
  have hG := hG'.over hb
  have h74 := h7.over hb
  have h84 := h8.over hb
  clear hb hG' h7 h8
  have ⟨A0, A1, A2, A3, A4⟩ := h74
  have ⟨N0, N1, N2, N3, N4⟩ := h84
  have ⟨D0, D1, D2, D3, D4⟩ := hG.2.1
  have ⟨R0, R1, R2, R3, R4⟩ := hG.2.2.1
  rcases hw with ⟨rfl, rfl, rfl, rfl, rfl, rfl⟩ | ⟨rfl | ⟨rfl, rfl⟩, rfl, rfl, rfl, rfl⟩
  · go_wp2
    go_region
    go_wp2
    have hE := (hG.fin (.int .u32 (n : Int)) (.int .i64 (m : Int)) (.string t) (.bool false)).drew
    exact bodyPost_ret (v := .tuple #[.agg #[.int .u32 (n : Int), .int .i64 (m : Int)], .agg #[.string t, .bool false]]) (by simp [results, Tryd.results14, go_sem, D1, D2, R1, R2]) rfl ⟨rfl, hE⟩
  all_goals
    go_wp2
    have hE := hG.fin (.int .u32 0) (.int .i64 0) (.string ⟨#[]⟩) (.bool true)
    exact bodyPost_ret (v := .tuple #[.agg #[.int .u32 0, .int .i64 0], .agg #[.string ⟨#[]⟩, .bool true]]) (by simp [results, Tryd.results14, go_sem, D1, D2, R1, R2]) rfl ⟨rfl, hE⟩
end Go.Proofs.YthmadcmoendndaaDoor.Bl
