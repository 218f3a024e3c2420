/-
  Contracts: a number with a set of pairs, read off bytes. Conditions: as each theorem says.
-/
import Derived.Test.YtkemljpjfbmjgaaDoorAttrW
import Derived.Test.YtkemljpjfbmjgaaDoorDepsG
import Derived.Test.YtkemljpjfbmjgaaDoorDepsH
namespace Go.Proofs.YtkemljpjfbmjgaaDoor.At
open Go.RowKit
open Dp (ID IsSet getD triple Ids Idz)
open Bl (Pair below_then below_set2)
open Pk (number scope_ahead)
set_option maxRecDepth 100000

section
variable {w0 w w' : World} {B : Nat}
/-- the last of three blocks is stored -/
theorem Held.put3 {r k g : Nat} {a b c d u v : Value} (h : Held w0 B [(r, a, b), (k, c, d), (g, u, v)] w) (hr : g ≠ r) (hk : g ≠ k) (hB : B ≤ g) (u' v' : Value) :
    Held w0 B [(r, a, b), (k, c, d), (g, u', v')] ((w.setCell ⟨g, 0, none⟩ u').setCell ⟨g, 1, none⟩ v') := by
  refine ⟨below_set2 h.1 hB u' v', by simpa [World.setCell] using h.2.1, fun x hx => ?_⟩
  simp only [List.mem_cons, List.not_mem_nil, or_false] at hx
  rcases hx with rfl | rfl | rfl
  · exact (h.at 0 rfl).far2 g hr u' v'
  · exact (h.at 1 rfl).far2 g hk u' v'
  · exact (h.at 2 rfl).put u' v'
/-- the answer's two blocks are stored -/
theorem two_out {k r : Nat} (h : Below B w0 w) (hk : B ≤ k) (hr : B ≤ r) (a b c d : Value) : Below B w0 ((((w.setCell ⟨k, 0, none⟩ a).setCell ⟨k, 1, none⟩ b).setCell ⟨r, 0, none⟩ c).setCell ⟨r, 1, none⟩ d) :=
  below_set2 (below_set2 h hk a b) hr c d
theorem idz_setR {ao : Option Addr} {cap : Nat} {xs : List ID} (h : Idz w ao cap xs) {r : Nat} {s : ByteArray} {z : Bool} (hr : Pair w r (.string s) (.bool z)) (c d : Value) : Idz ((w.setCell ⟨r, 0, none⟩ c).setCell ⟨r, 1, none⟩ d) ao cap xs :=
  idz_set (idz_set h hr.2.1 (fun i e => by cases e) c) (by rw [World.cell?_setCell_other _ _ _ _ (by simp)]; exact hr.2.2.1) (fun i e => by cases e) d
theorem idz_out2 {ao : Option Addr} {cap : Nat} {xs : List ID} (h : Idz w ao cap xs) {k r : Nat} (hk : Pair w k (.int .u32 0) (.slice none 0 0)) {s : ByteArray} {z : Bool} (hr : Pair w r (.string s) (.bool z)) (hne : k ≠ r) (a b c d : Value) :
    Idz ((((w.setCell ⟨k, 0, none⟩ a).setCell ⟨k, 1, none⟩ b).setCell ⟨r, 0, none⟩ c).setCell ⟨r, 1, none⟩ d) ao cap xs := by
  exact idz_setR (idz_set2 h hk (fun i e => by cases e) a b) (hr.far2 k hne a b) c d
end
/-- what Get comes by -/
theorem getA_way (s : ByteArray) (b : Bool) (n : Nat) (xs : List ID) (t : ByteArray) (c : Bool) (h : getA s b = ((n, xs), t, c)) :
    ∃ (m : Nat) (y : ByteArray) (z : Bool) (l : List ID), number s b 4 = (m, y, z) ∧ m < 4294967296 ∧ y.size ≤ s.size ∧ getD y z = (l, t, c) ∧ ((c = false ∧ n = m ∧ xs = l) ∨ (c = true ∧ n = 0 ∧ xs = [] ∧ l = [] ∧ t = ⟨#[]⟩)) := by
  obtain ⟨m, y, z, e⟩ := triple (number s b 4)
  have l1 := Pk.number_lt s b 4
  have k1 := Pk.number_size s b 4
  rw [show ((4 : Nat) : Int) = 4 from rfl, e] at l1
  rw [e] at k1
  simp only at l1 k1
  obtain ⟨l, t', c', e2⟩ := triple (getD y z)
  unfold getA at h
  rw [e] at h
  simp only [e2] at h
  cases c'
  · simp only [Bool.false_eq_true, if_false, Prod.mk.injEq] at h
    obtain ⟨⟨rfl, rfl⟩, rfl, rfl⟩ := h
    exact ⟨m, y, z, l, e, by omega, k1, e2, .inl ⟨rfl, rfl, rfl⟩⟩
  · simp only [if_true, Prod.mk.injEq] at h
    obtain ⟨⟨rfl, rfl⟩, rfl, rfl⟩ := h
    refine ⟨m, y, z, l, e, by omega, k1, e2, .inr ⟨rfl, rfl, rfl, ?_⟩⟩
    obtain ⟨_, _, _, _, _, _, hw⟩ := Dp.getD_way _ _ _ _ _ e2
    rcases hw with ⟨_, q, q2, _⟩ | ⟨_, _, _, _, _, _, hw⟩
    · exact ⟨q, q2⟩
    · rcases hw with ⟨_, _, _, _, q⟩ | ⟨_, q, q2, _⟩
      · cases q
      · exact ⟨q, q2⟩

set_option maxHeartbeats 1000000 in
theorem get_any (s : ByteArray) (b : Bool) (n : Nat) (xs : List ID) (t : ByteArray) (c : Bool) (h : getA s b = ((n, xs), t, c)) (hs : s.size ≤ maxLen) (w : World) :
    Calls Tryd.prog 23 #[.agg #[.string s, .bool b]] w fun e w' => ∃ v cv, e = .returned (.tuple #[.agg #[.int .u32 n, .slice v xs.length cv], .agg #[.string t, .bool c]]) ∧ Idz w' v cv xs ∧ Below w.heap.size w w' := by
  obtain ⟨m, y, z, l, h1, hm, hy, h2, hway⟩ := getA_way s b n xs t c h
  have H1 := Lib.hid h1
  have H2 := Lib.hid h2
  have hy1 : y.size ≤ maxLen := Nat.le_trans hy hs
  have cw : IntKind.u32.wrap (m : Int) = (m : Int) := by simp [IntKind.wrap, IntKind.bits, IntKind.signed]; omega
  have HP := Lib.hid ((((Held.nil w).new (.string s) (.bool b) 49 (w.heap.size) rfl).new (.int .u32 0) (.slice none 0 0) 25 (w.heap.size + 1) (by simp)).new (.string ⟨#[]⟩) (.bool false) 49 (w.heap.size + 1 + 1) (by simp))
  clear h h1 h2 hy
  rcases hway with ⟨rfl, rfl, rfl⟩ | ⟨rfl, rfl, rfl, rfl, rfl⟩
  · go_enter Tryd.func23, Tryd.ntmps23
    go_wp2_with fail
    refine scope_ahead 0 rfl ?_
    go_wp2_with fail
    refine (Pk.number_any s b 4 n y z H1.out hs _).mono ?_
    rintro e w1 ⟨rfl, hb⟩
    have hH := Held.keep hb HP.out
    have ⟨A0, A1, A2, A3, A4⟩ := hH.at 2 rfl
    have ⟨B0, B1, B2, B3, B4⟩ := hH.at 1 rfl
    have ⟨C0, C1, C2, C3, C4⟩ := hH.at 0 rfl
    go_wp2_with fail
    have hH1 := hH.put3 (by omega) (by omega) (Nat.le_refl _) (.string y) (.bool z)
    clear A0 A1 A2 A3 A4 B0 B1 B2 B3 B4 C0 C1 C2 C3 C4 hH hb
    generalize (w1.setCell ⟨w.heap.size, 0, none⟩ (.string y)).setCell ⟨w.heap.size, 1, none⟩ (.bool z) = W1 at *
    refine (Dp.get_any y z xs t false H2.out hy1 _).mono ?_
    rintro e w2 ⟨v, cv, rfl, iv, hb⟩
    have hH := Held.keep hb hH1
    clear hb hH1
    have ⟨A0, A1, A2, A3, A4⟩ := hH.at 2 rfl
    go_wp2_with fail
    have hH1 := hH.put3 (by omega) (by omega) (Nat.le_refl _) (.string t) (.bool false)
    have iv := idz_setR iv (hH.at 2 rfl) (.string t) (.bool false)
    clear A0 A1 A2 A3 A4 hH
    generalize (w2.setCell ⟨w.heap.size, 0, none⟩ (.string t)).setCell ⟨w.heap.size, 1, none⟩ (.bool false) = W2 at *
    have ⟨A0, A1, A2, A3, A4⟩ := hH1.at 2 rfl
    have ⟨B0, B1, B2, B3, B4⟩ := hH1.at 1 rfl
    have ⟨C0, C1, C2, C3, C4⟩ := hH1.at 0 rfl
    go_wp2_with fail
    go_region
    go_wp2
    simp only [Exit.jump]
    refine bodyPost_ret (v := .tuple #[.agg #[.int .u32 n, .slice v xs.length cv], .agg #[.string t, .bool false]]) (by simp [results, Tryd.results23, go_sem, B1, B2, C1, C2]) rfl ⟨_, _, rfl, ?_⟩
    exact ⟨(idz_out2 iv (hH1.at 1 rfl) (hH1.at 0 rfl) (by omega) _ _ _ _).kept (Below.refl _ _).drew, (two_out hH1.1 (by omega) (by omega) _ _ _ _).drew⟩
  · go_enter Tryd.func23, Tryd.ntmps23
    go_wp2_with fail
    refine scope_ahead 0 rfl ?_
    go_wp2_with fail
    refine (Pk.number_any s b 4 m y z H1.out hs _).mono ?_
    rintro e w1 ⟨rfl, hb⟩
    have hH := Held.keep hb HP.out
    have ⟨A0, A1, A2, A3, A4⟩ := hH.at 2 rfl
    have ⟨B0, B1, B2, B3, B4⟩ := hH.at 1 rfl
    have ⟨C0, C1, C2, C3, C4⟩ := hH.at 0 rfl
    go_wp2_with fail
    have hH1 := hH.put3 (by omega) (by omega) (Nat.le_refl _) (.string y) (.bool z)
    clear A0 A1 A2 A3 A4 B0 B1 B2 B3 B4 C0 C1 C2 C3 C4 hH hb
    generalize (w1.setCell ⟨w.heap.size, 0, none⟩ (.string y)).setCell ⟨w.heap.size, 1, none⟩ (.bool z) = W1 at *
    refine (Dp.get_any y z [] ⟨#[]⟩ true H2.out hy1 _).mono ?_
    rintro e w2 ⟨v, cv, rfl, iv, hb⟩
    have hH := Held.keep hb hH1
    clear hb hH1
    have ⟨A0, A1, A2, A3, A4⟩ := hH.at 2 rfl
    go_wp2_with fail
    have hH1 := hH.put3 (by omega) (by omega) (Nat.le_refl _) (.string ⟨#[]⟩) (.bool true)
    have iv := idz_setR iv (hH.at 2 rfl) (.string ⟨#[]⟩) (.bool true)
    clear A0 A1 A2 A3 A4 hH
    generalize (w2.setCell ⟨w.heap.size, 0, none⟩ (.string ⟨#[]⟩)).setCell ⟨w.heap.size, 1, none⟩ (.bool true) = W2 at *
    have ⟨A0, A1, A2, A3, A4⟩ := hH1.at 2 rfl
    have ⟨B0, B1, B2, B3, B4⟩ := hH1.at 1 rfl
    have ⟨C0, C1, C2, C3, C4⟩ := hH1.at 0 rfl
    go_wp2_with fail
    go_step3
    refine ⟨rfl, ?_⟩
    go_wp2
    rw [Exit.noGoto_ret]
    exact bodyPost_ret (v := .tuple #[.agg #[.int .u32 0, .slice none 0 0], .agg #[.string ⟨#[]⟩, .bool true]]) (by simp [results, Tryd.results23, go_sem, B1, B2, C1, C2]) rfl ⟨_, _, rfl, ⟨Dp.Ids.nil _, fun _ => rfl⟩, two_out hH1.1 (by omega) (by omega) _ _ _ _⟩

set_option maxHeartbeats 1000000 in
theorem refget_any (s : ByteArray) (b : Bool) (n : Nat) (xs : List ID) (t : ByteArray) (c : Bool) (h : getA s b = ((n, xs), t, c)) (hs : s.size ≤ maxLen) (w : World) :
    Calls Tryd.prog 24 #[.agg #[.string s, .bool b]] w fun e w' => ∃ v cv, e = .returned (.tuple #[.agg #[.int .u32 n, .slice v xs.length cv], .agg #[.string t, .bool c]]) ∧ Idz w' v cv xs ∧ Below w.heap.size w w' := by
  obtain ⟨m, y, z, l, h1, hm, hy, h2, hway⟩ := getA_way s b n xs t c h
  have H1 := Lib.hid h1
  have H2 := Lib.hid h2
  have hy1 : y.size ≤ maxLen := Nat.le_trans hy hs
  have cw : IntKind.u32.wrap (m : Int) = (m : Int) := by simp [IntKind.wrap, IntKind.bits, IntKind.signed]; omega
  have HP := Lib.hid ((((Held.nil w).new (.string s) (.bool b) 52 (w.heap.size) rfl).new (.int .u32 0) (.slice none 0 0) 36 (w.heap.size + 1) (by simp)).new (.string ⟨#[]⟩) (.bool false) 52 (w.heap.size + 1 + 1) (by simp))
  clear h h1 h2 hy
  rcases hway with ⟨rfl, rfl, rfl⟩ | ⟨rfl, rfl, rfl, rfl, rfl⟩
  · go_enter Tryd.func24, Tryd.ntmps24
    go_wp2_with fail
    refine (Pk.refnumber_any s b 4 n y z H1.out hs _).mono ?_
    rintro e w1 ⟨rfl, hb⟩
    have hH := Held.keep hb HP.out
    have ⟨A0, A1, A2, A3, A4⟩ := hH.at 2 rfl
    have ⟨B0, B1, B2, B3, B4⟩ := hH.at 1 rfl
    have ⟨C0, C1, C2, C3, C4⟩ := hH.at 0 rfl
    go_wp2_with fail
    have hH1 := hH.new (.string y) (.bool z) 52 w1.heap.size rfl
    clear A0 A1 A2 A3 A4 B0 B1 B2 B3 B4 C0 C1 C2 C3 C4 hH hb
    generalize w1.alloc (.cells #[.string y, .bool z] 52) = W1 at *
    refine (Dp.refget_any y z xs t false H2.out hy1 _).mono ?_
    rintro e w2 ⟨v, cv, rfl, iv, hb⟩
    have hH := Held.keep hb hH1
    clear hb hH1
    go_wp2_with fail
    have hH1 := hH.new (.string t) (.bool false) 52 w2.heap.size rfl
    have iv := iv.kept (Bl.below_1 w2 (.cells #[.string t, .bool false] 52))
    have hlt := (hH.at 2 rfl).1
    have hlt2 := (hH.at 1 rfl).1
    generalize w2.alloc (.cells #[.string t, .bool false] 52) = W2 at *
    generalize w2.heap.size = g at *
    have n1 : ¬ g = w.heap.size + 1 := by omega
    have n2 : ¬ w.heap.size + 1 = g := by omega
    have n3 : ¬ g = w.heap.size + 1 + 1 := by omega
    have n4 : ¬ w.heap.size + 1 + 1 = g := by omega
    clear hlt hlt2 hH
    have ⟨A0, A1, A2, A3, A4⟩ := hH1.at 0 rfl
    have ⟨B0, B1, B2, B3, B4⟩ := hH1.at 3 rfl
    have ⟨C0, C1, C2, C3, C4⟩ := hH1.at 2 rfl
    go_wp2_with fail
    go_region
    go_wp2
    refine bodyPost_ret (v := .tuple #[.agg #[.int .u32 n, .slice v xs.length cv], .agg #[.string t, .bool false]]) (by simp [results, Tryd.results24, go_sem, B1, B2, C1, C2]) rfl ⟨_, _, rfl, ?_⟩
    exact ⟨(idz_out2 iv (hH1.at 3 rfl) (hH1.at 2 rfl) (by omega) _ _ _ _).kept (Below.refl _ _).drew, (two_out hH1.1 (by omega) (by omega) _ _ _ _).drew⟩
  · go_enter Tryd.func24, Tryd.ntmps24
    go_wp2_with fail
    refine (Pk.refnumber_any s b 4 m y z H1.out hs _).mono ?_
    rintro e w1 ⟨rfl, hb⟩
    have hH := Held.keep hb HP.out
    have ⟨A0, A1, A2, A3, A4⟩ := hH.at 2 rfl
    have ⟨B0, B1, B2, B3, B4⟩ := hH.at 1 rfl
    have ⟨C0, C1, C2, C3, C4⟩ := hH.at 0 rfl
    go_wp2_with fail
    have hH1 := hH.new (.string y) (.bool z) 52 w1.heap.size rfl
    clear A0 A1 A2 A3 A4 B0 B1 B2 B3 B4 C0 C1 C2 C3 C4 hH hb
    generalize w1.alloc (.cells #[.string y, .bool z] 52) = W1 at *
    refine (Dp.refget_any y z [] ⟨#[]⟩ true H2.out hy1 _).mono ?_
    rintro e w2 ⟨v, cv, rfl, iv, hb⟩
    have hH := Held.keep hb hH1
    clear hb hH1
    go_wp2_with fail
    have hH1 := hH.new (.string ⟨#[]⟩) (.bool true) 52 w2.heap.size rfl
    have iv := iv.kept (Bl.below_1 w2 (.cells #[.string ⟨#[]⟩, .bool true] 52))
    have hlt := (hH.at 2 rfl).1
    have hlt2 := (hH.at 1 rfl).1
    generalize w2.alloc (.cells #[.string ⟨#[]⟩, .bool true] 52) = W2 at *
    generalize w2.heap.size = g at *
    have n1 : ¬ g = w.heap.size + 1 := by omega
    have n2 : ¬ w.heap.size + 1 = g := by omega
    have n3 : ¬ g = w.heap.size + 1 + 1 := by omega
    have n4 : ¬ w.heap.size + 1 + 1 = g := by omega
    clear hlt hlt2 hH
    have ⟨A0, A1, A2, A3, A4⟩ := hH1.at 0 rfl
    have ⟨B0, B1, B2, B3, B4⟩ := hH1.at 3 rfl
    have ⟨C0, C1, C2, C3, C4⟩ := hH1.at 2 rfl
    go_wp2_with fail
    go_region
    go_wp2
    exact bodyPost_ret (v := .tuple #[.agg #[.int .u32 0, .slice none 0 0], .agg #[.string ⟨#[]⟩, .bool true]]) (by simp [results, Tryd.results24, go_sem, B1, B2, C1, C2]) rfl ⟨_, _, rfl, ⟨Dp.Ids.nil _, fun _ => rfl⟩, (two_out hH1.1 (by omega) (by omega) _ _ _ _).drew⟩
end Go.Proofs.YtkemljpjfbmjgaaDoor.At
