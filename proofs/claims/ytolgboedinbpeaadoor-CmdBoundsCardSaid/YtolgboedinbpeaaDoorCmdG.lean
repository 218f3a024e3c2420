/-
  Contracts of package cmd and of the document's own answer: a command read off bytes.
-/
import Derived.Test.YtolgboedinbpeaaDoorCmdP
namespace Go.Proofs.YtolgboedinbpeaaDoor.Cm
open Go.RowKit
set_option maxRecDepth 100000
open Pk (bcell scope_ahead numB number textB text)
open Bl (ret_bool ret_text)
open Rw (below_1 below_2 below_3 below_then)

theorem below_sets {B g : Nat} {w W : World} (h : Below B w W) (hg : B ≤ g) (l : List (Nat × Value)) : Below B w (l.foldl (fun W p => W.setCell ⟨g, p.1, none⟩ p.2) W) := by
  induction l generalizing W with
  | nil => exact h
  | cons p l ih => exact ih (h.setCell (p := ⟨g, p.1, none⟩) hg p.2)

/-- three blocks: the reader's, those of the two results -/
def Got (w : World) (y : ByteArray) (z : Bool) (W : World) : Prop :=
  Rw.Row W w.heap.size [.string y, .bool z] ∧ Rw.Row W (w.heap.size + 1) [.int .i64 0, .int .i64 0, .int .u32 0, .string ⟨#[]⟩, .string ⟨#[]⟩] ∧ Rw.Row W (w.heap.size + 1 + 1) [.string ⟨#[]⟩, .bool false] ∧ Below w.heap.size w W
section
variable {w W W' : World} {y y' : ByteArray} {z z' : Bool}
theorem Got.new {w1 : World} {t0 t1 t2 : TypeId} (hb : Below (((w.alloc (.cells #[.string y, .bool z] t0)).alloc (.cells #[.int .i64 0, .int .i64 0, .int .u32 0, .string ⟨#[]⟩, .string ⟨#[]⟩] t1)).alloc (.cells #[.string ⟨#[]⟩, .bool false] t2)).heap.size
    (((w.alloc (.cells #[.string y, .bool z] t0)).alloc (.cells #[.int .i64 0, .int .i64 0, .int .u32 0, .string ⟨#[]⟩, .string ⟨#[]⟩] t1)).alloc (.cells #[.string ⟨#[]⟩, .bool false] t2)) w1) : Got w y z w1 :=
  ⟨(((Rw.Row.newAt w [.string y, .bool z] t0 _ rfl).alloc _).alloc _).over hb, ((Rw.Row.newAt _ [.int .i64 0, .int .i64 0, .int .u32 0, .string ⟨#[]⟩, .string ⟨#[]⟩] t1 _ (by simp)).alloc _).over hb, (Rw.Row.newAt _ [.string ⟨#[]⟩, .bool false] t2 _ (by simp)).over hb, below_then (below_3 _ _ _ _) hb (by simp; omega)⟩
theorem Got.put (h : Got w y z W) (y' : ByteArray) (z' : Bool) : Got w y' z' ((W.setCell ⟨w.heap.size, 0, none⟩ (.string y')).setCell ⟨w.heap.size, 1, none⟩ (.bool z')) :=
  ⟨(h.1.set 0 (.string y') _ rfl [.string y', .bool z] rfl).set 1 (.bool z') _ rfl _ rfl, (h.2.1.far ⟨w.heap.size, 0, none⟩ (by simp) _).far ⟨w.heap.size, 1, none⟩ (by simp) _, (h.2.2.1.far ⟨w.heap.size, 0, none⟩ (by simp; omega) _).far ⟨w.heap.size, 1, none⟩ (by simp; omega) _,
    (h.2.2.2.setCell (p := ⟨w.heap.size, 0, none⟩) (Nat.le_refl _) _).setCell (p := ⟨w.heap.size, 1, none⟩) (Nat.le_refl _) _⟩
theorem Got.over (h : Got w y z W) (hb : Below W.heap.size W W') : Got w y z W' :=
  ⟨h.1.over hb, h.2.1.over hb, h.2.2.1.over hb, below_then h.2.2.2 hb (Nat.le_of_lt h.1.1)⟩
theorem Got.alloc (h : Got w y z W) (o : Obj) : Got w y z (W.alloc o) := h.over (below_1 _ _)
theorem Got.fin (h : Got w y z W) (a b c d e f g : Value) : Below w.heap.size w (((((((W.setCell ⟨w.heap.size + 1, 0, none⟩ a).setCell ⟨w.heap.size + 1, 1, none⟩ b).setCell ⟨w.heap.size + 1, 2, none⟩ c).setCell ⟨w.heap.size + 1, 3, none⟩ d).setCell ⟨w.heap.size + 1, 4, none⟩ e).setCell ⟨w.heap.size + 1 + 1, 0, none⟩ f).setCell ⟨w.heap.size + 1 + 1, 1, none⟩ g) :=
  below_sets (below_sets h.2.2.2 (g := w.heap.size + 1) (by omega) [(0, a), (1, b), (2, c), (3, d), (4, e)]) (g := w.heap.size + 1 + 1) (by omega) [(0, f), (1, g)]
end

set_option maxHeartbeats 4000000 in
theorem read_any (s : ByteArray) (b : Bool) (o c q : Int) (k v t : ByteArray) (d : Bool) (h : readC s b = (o, c, q, k, v, t, d)) (hs : s.size ≤ 281474976710656) (w : World) :
    Calls Tryd.prog 21 #[.agg #[.string s, .bool b]] w fun e w' => e = .returned (.tuple #[.agg #[.int .i64 o, .int .i64 c, .int .u32 q, .string k, .string v], .agg #[.string t, .bool d]]) ∧ Below w.heap.size w w' := by
  obtain ⟨n1, n2, n3, y1, y2, y3, y4, y5, x4, x5, z1, z2, z3, z4, z5, p, h1, h2, h3, h4, h5, l1, l2, l3, k1, k2, k3, k4, k5, hp, hw⟩ := read_way s b o c q k v t d h
  have H1 := Lib.hid h1
  have H2 := Lib.hid h2
  have H3 := Lib.hid h3
  have H4 := Lib.hid h4
  have H5 := Lib.hid h5
  have HP := Lib.hid hp
  have hs0 : s.size ≤ maxLen := by unfold maxLen; omega
  have hy1 : y1.size ≤ maxLen := Nat.le_trans k1 hs0
  have hy2 : y2.size ≤ maxLen := Nat.le_trans k2 hs0
  have hy3 : y3.size ≤ 281474976710656 := Nat.le_trans k3 hs
  have hy4 : y4.size ≤ 281474976710656 := Nat.le_trans k4 hs
  have c3 : IntKind.u32.wrap (n3 : Int) = (n3 : Int) := by
    have e : ∀ m : Int, IntKind.u32.wrap m = m % 4294967296 := fun m => by simp [IntKind.wrap, IntKind.bits, IntKind.signed]
    rw [e]; omega
  have c1 : IntKind.i64.wrap (n1 : Int) = (n1 : Int) := Go.IntWalk.i64_in _ (by omega)
  have c2 : IntKind.i64.wrap (n2 : Int) = (n2 : Int) := Go.IntWalk.i64_in _ (by omega)
  clear h h1 h2 h3 h4 h5 hp k1 k2 k3 k4 k5
  go_enter Tryd.func21, Tryd.ntmps21
  go_wp2
  refine scope_ahead 0 rfl ?_
  go_wp2_with fail
  refine (Pk.number_any s b 1 n1 y1 z1 H1.out hs0 _).mono ?_
  rintro e w1 ⟨rfl, hb⟩
  have hG : Got w s b w1 := Got.new hb
  clear hb
  have ⟨A0, B0⟩ := hG.1.2 0 _ rfl
  have ⟨A1, B1⟩ := hG.1.2 1 _ rfl
  go_wp2_with fail
  have hG' := hG.put y1 z1
  clear A0 A1 B0 B1 hG
  generalize (w1.setCell ⟨w.heap.size, 0, none⟩ (.string y1)).setCell ⟨w.heap.size, 1, none⟩ (.bool z1) = W1 at *
  refine (Pk.number_any y1 z1 1 n2 y2 z2 H2.out hy1 _).mono ?_
  rintro e w2 ⟨rfl, hb⟩
  have hG := hG'.over hb
  clear hb hG'
  have ⟨A0, B0⟩ := hG.1.2 0 _ rfl
  have ⟨A1, B1⟩ := hG.1.2 1 _ rfl
  go_wp2_with fail
  have hG' := hG.put y2 z2
  clear A0 A1 B0 B1 hG
  generalize (w2.setCell ⟨w.heap.size, 0, none⟩ (.string y2)).setCell ⟨w.heap.size, 1, none⟩ (.bool z2) = W2 at *
  refine (Pk.number_any y2 z2 4 n3 y3 z3 H3.out hy2 _).mono ?_
  rintro e w3 ⟨rfl, hb⟩
  have hG := hG'.over hb
  clear hb hG'
  have ⟨A0, B0⟩ := hG.1.2 0 _ rfl
  have ⟨A1, B1⟩ := hG.1.2 1 _ rfl
  go_wp2_with fail
  have hG' := hG.put y3 z3
  clear A0 A1 B0 B1 hG
  generalize (w3.setCell ⟨w.heap.size, 0, none⟩ (.string y3)).setCell ⟨w.heap.size, 1, none⟩ (.bool z3) = W3 at *
  refine (Pk.text_any y3 z3 x4 y4 z4 H4.out hy3 _).mono ?_
  rintro e w4 ⟨rfl, hb⟩
  have hG := hG'.over hb
  clear hb hG'
  have ⟨A0, B0⟩ := hG.1.2 0 _ rfl
  have ⟨A1, B1⟩ := hG.1.2 1 _ rfl
  go_wp2_with fail
  have hG' := hG.put y4 z4
  clear A0 A1 B0 B1 hG
  generalize (w4.setCell ⟨w.heap.size, 0, none⟩ (.string y4)).setCell ⟨w.heap.size, 1, none⟩ (.bool z4) = W4 at *
  refine (Pk.text_any y4 z4 x5 y5 z5 H5.out hy4 _).mono ?_
  rintro e w5 ⟨rfl, hb⟩
  have hG := hG'.over hb
  clear hb hG'
  have ⟨A0, B0⟩ := hG.1.2 0 _ rfl
  have ⟨A1, B1⟩ := hG.1.2 1 _ rfl
  have hlt := hG.2.2.1.1
  have hl0 := hG.1.1
  rcases hw with ⟨rfl, rfl, rfl, rfl, rfl, rfl, rfl, rfl, rfl⟩ | ⟨rfl | ⟨rfl, rfl⟩, rfl, rfl, rfl, rfl, rfl, rfl, rfl⟩
  · go_wp2_with fail
    have hG' := (hG.put t false).alloc (.cells #[.int .i64 (n1 : Int), .int .i64 (n2 : Int), .int .u32 (n3 : Int), .string k, .string v] 24)
    have hn := Rw.Row.newAt ((w5.setCell ⟨w.heap.size, 0, none⟩ (.string t)).setCell ⟨w.heap.size, 1, none⟩ (.bool false)) [.int .i64 (n1 : Int), .int .i64 (n2 : Int), .int .u32 (n3 : Int), .string k, .string v] 24 w5.heap.size (by simp)
    clear A0 A1 B0 B1 hG
    generalize ((w5.setCell ⟨w.heap.size, 0, none⟩ (.string t)).setCell ⟨w.heap.size, 1, none⟩ (.bool false)).alloc (.cells #[.int .i64 (n1 : Int), .int .i64 (n2 : Int), .int .u32 (n3 : Int), .string k, .string v] 24) = W5 at *
    generalize w5.heap.size = g at *
    refine (right_any n1 n2 n3 k v true HP.out _).mono ?_
    rintro e w6 ⟨rfl, hb⟩
    have hG := hG'.over hb
    have hn6 := hn.over hb
    clear hb hG' hn
    have ⟨D0, DD0⟩ := hG.2.1.2 0 _ rfl
    have ⟨D1, DD1⟩ := hG.2.1.2 1 _ rfl
    have ⟨D2, DD2⟩ := hG.2.1.2 2 _ rfl
    have ⟨D3, DD3⟩ := hG.2.1.2 3 _ rfl
    have ⟨D4, DD4⟩ := hG.2.1.2 4 _ rfl
    have ⟨R0, RR0⟩ := hG.2.2.1.2 0 _ rfl
    have ⟨R1, RR1⟩ := hG.2.2.1.2 1 _ rfl
    have ⟨N0, NN0⟩ := hn6.2 0 _ rfl
    have ⟨N1, NN1⟩ := hn6.2 1 _ rfl
    have ⟨N2, NN2⟩ := hn6.2 2 _ rfl
    have ⟨N3, NN3⟩ := hn6.2 3 _ rfl
    have ⟨N4, NN4⟩ := hn6.2 4 _ rfl
    have ⟨A0, AA0⟩ := hG.1.2 0 _ rfl
    have ⟨A1, AA1⟩ := hG.1.2 1 _ rfl
    go_wp2
    go_region
    go_wp2
    simp only [Exit.jump]
    have hE := (hG.fin (.int .i64 (n1 : Int)) (.int .i64 (n2 : Int)) (.int .u32 (n3 : Int)) (.string k) (.string v) (.string t) (.bool false)).drew
    exact bodyPost_ret (v := .tuple #[.agg #[.int .i64 (n1 : Int), .int .i64 (n2 : Int), .int .u32 (n3 : Int), .string k, .string v], .agg #[.string t, .bool false]]) (by simp [results, Tryd.results21, go_sem, D0, D1, D2, D3, D4, R0, R1]) rfl ⟨rfl, hE⟩
  · go_wp2_with fail
    have hG' := (hG.put y5 true).alloc (.cells #[.int .i64 (n1 : Int), .int .i64 (n2 : Int), .int .u32 (n3 : Int), .string x4, .string x5] 24)
    have hn := Rw.Row.newAt ((w5.setCell ⟨w.heap.size, 0, none⟩ (.string y5)).setCell ⟨w.heap.size, 1, none⟩ (.bool true)) [.int .i64 (n1 : Int), .int .i64 (n2 : Int), .int .u32 (n3 : Int), .string x4, .string x5] 24 w5.heap.size (by simp)
    clear A0 A1 B0 B1 hG
    generalize ((w5.setCell ⟨w.heap.size, 0, none⟩ (.string y5)).setCell ⟨w.heap.size, 1, none⟩ (.bool true)).alloc (.cells #[.int .i64 (n1 : Int), .int .i64 (n2 : Int), .int .u32 (n3 : Int), .string x4, .string x5] 24) = W5 at *
    generalize w5.heap.size = g at *
    have hG := hG'
    clear hG' hn
    have ⟨D0, DD0⟩ := hG.2.1.2 0 _ rfl
    have ⟨D1, DD1⟩ := hG.2.1.2 1 _ rfl
    have ⟨D2, DD2⟩ := hG.2.1.2 2 _ rfl
    have ⟨D3, DD3⟩ := hG.2.1.2 3 _ rfl
    have ⟨D4, DD4⟩ := hG.2.1.2 4 _ rfl
    have ⟨R0, RR0⟩ := hG.2.2.1.2 0 _ rfl
    have ⟨R1, RR1⟩ := hG.2.2.1.2 1 _ rfl
    go_step3
    refine ⟨rfl, ?_⟩
    go_wp2
    rw [Exit.noGoto_ret]
    have hE := (hG.fin (.int .i64 0) (.int .i64 0) (.int .u32 0) (.string ⟨#[]⟩) (.string ⟨#[]⟩) (.string ⟨#[]⟩) (.bool true))
    exact bodyPost_ret (v := .tuple #[.agg #[.int .i64 0, .int .i64 0, .int .u32 0, .string ⟨#[]⟩, .string ⟨#[]⟩], .agg #[.string ⟨#[]⟩, .bool true]]) (by simp [results, Tryd.results21, go_sem, D0, D1, D2, D3, D4, R0, R1]) rfl ⟨rfl, hE⟩
  · go_wp2_with fail
    have hG' := (hG.put y5 false).alloc (.cells #[.int .i64 (n1 : Int), .int .i64 (n2 : Int), .int .u32 (n3 : Int), .string x4, .string x5] 24)
    have hn := Rw.Row.newAt ((w5.setCell ⟨w.heap.size, 0, none⟩ (.string y5)).setCell ⟨w.heap.size, 1, none⟩ (.bool false)) [.int .i64 (n1 : Int), .int .i64 (n2 : Int), .int .u32 (n3 : Int), .string x4, .string x5] 24 w5.heap.size (by simp)
    clear A0 A1 B0 B1 hG
    generalize ((w5.setCell ⟨w.heap.size, 0, none⟩ (.string y5)).setCell ⟨w.heap.size, 1, none⟩ (.bool false)).alloc (.cells #[.int .i64 (n1 : Int), .int .i64 (n2 : Int), .int .u32 (n3 : Int), .string x4, .string x5] 24) = W5 at *
    generalize w5.heap.size = g at *
    refine (right_any n1 n2 n3 x4 x5 false HP.out _).mono ?_
    rintro e w6 ⟨rfl, hb⟩
    have hG := hG'.over hb
    have hn6 := hn.over hb
    clear hb hG' hn
    have ⟨D0, DD0⟩ := hG.2.1.2 0 _ rfl
    have ⟨D1, DD1⟩ := hG.2.1.2 1 _ rfl
    have ⟨D2, DD2⟩ := hG.2.1.2 2 _ rfl
    have ⟨D3, DD3⟩ := hG.2.1.2 3 _ rfl
    have ⟨D4, DD4⟩ := hG.2.1.2 4 _ rfl
    have ⟨R0, RR0⟩ := hG.2.2.1.2 0 _ rfl
    have ⟨R1, RR1⟩ := hG.2.2.1.2 1 _ rfl
    go_wp2_with fail
    go_step3
    refine ⟨rfl, ?_⟩
    go_wp2
    rw [Exit.noGoto_ret]
    have hE := (hG.fin (.int .i64 0) (.int .i64 0) (.int .u32 0) (.string ⟨#[]⟩) (.string ⟨#[]⟩) (.string ⟨#[]⟩) (.bool true))
    exact bodyPost_ret (v := .tuple #[.agg #[.int .i64 0, .int .i64 0, .int .u32 0, .string ⟨#[]⟩, .string ⟨#[]⟩], .agg #[.string ⟨#[]⟩, .bool true]]) (by simp [results, Tryd.results21, go_sem, D0, D1, D2, D3, D4, R0, R1]) rfl ⟨rfl, hE⟩

set_option maxHeartbeats 4000000 in
theorem refread_any (s : ByteArray) (b : Bool) (o c q : Int) (k v t : ByteArray) (d : Bool) (h : readC s b = (o, c, q, k, v, t, d)) (hs : s.size ≤ 281474976710656) (w : World) :
    Calls Tryd.prog 22 #[.agg #[.string s, .bool b]] w fun e w' => e = .returned (.tuple #[.agg #[.int .i64 o, .int .i64 c, .int .u32 q, .string k, .string v], .agg #[.string t, .bool d]]) ∧ Below w.heap.size w w' := by
  obtain ⟨n1, n2, n3, y1, y2, y3, y4, y5, x4, x5, z1, z2, z3, z4, z5, p, h1, h2, h3, h4, h5, l1, l2, l3, k1, k2, k3, k4, k5, hp, hw⟩ := read_way s b o c q k v t d h
  have H1 := Lib.hid h1
  have H2 := Lib.hid h2
  have H3 := Lib.hid h3
  have H4 := Lib.hid h4
  have H5 := Lib.hid h5
  have HP := Lib.hid hp
  have hs0 : s.size ≤ maxLen := by unfold maxLen; omega
  have hy1 : y1.size ≤ maxLen := Nat.le_trans k1 hs0
  have hy2 : y2.size ≤ maxLen := Nat.le_trans k2 hs0
  have hy3 : y3.size ≤ 281474976710656 := Nat.le_trans k3 hs
  have hy4 : y4.size ≤ 281474976710656 := Nat.le_trans k4 hs
  have c3 : IntKind.u32.wrap (n3 : Int) = (n3 : Int) := by
    have e : ∀ m : Int, IntKind.u32.wrap m = m % 4294967296 := fun m => by simp [IntKind.wrap, IntKind.bits, IntKind.signed]
    rw [e]; omega
  have c1 : IntKind.i64.wrap (n1 : Int) = (n1 : Int) := Go.IntWalk.i64_in _ (by omega)
  have c2 : IntKind.i64.wrap (n2 : Int) = (n2 : Int) := Go.IntWalk.i64_in _ (by omega)
  clear h h1 h2 h3 h4 h5 hp k1 k2 k3 k4 k5
  go_enter Tryd.func22, Tryd.ntmps22
  go_wp2_with fail
  refine (Pk.refnumber_any s b 1 n1 y1 z1 H1.out hs0 _).mono ?_
  rintro e w1 ⟨rfl, hb⟩
  have hG : Got w s b w1 := Got.new hb
  clear hb
  go_wp2_with fail
  have hG' := hG.alloc (.cells #[.string y1, .bool z1] 46)
  clear hG
  generalize w1.alloc (.cells #[.string y1, .bool z1] 46) = W1 at *
  generalize w1.heap.size = g1 at *
  refine (Pk.refnumber_any y1 z1 1 n2 y2 z2 H2.out hy1 _).mono ?_
  rintro e w2 ⟨rfl, hb⟩
  have hG := hG'.over hb
  clear hb hG'
  go_wp2_with fail
  have hG' := hG.alloc (.cells #[.string y2, .bool z2] 46)
  clear hG
  generalize w2.alloc (.cells #[.string y2, .bool z2] 46) = W2 at *
  generalize w2.heap.size = g2 at *
  refine (Pk.refnumber_any y2 z2 4 n3 y3 z3 H3.out hy2 _).mono ?_
  rintro e w3 ⟨rfl, hb⟩
  have hG := hG'.over hb
  clear hb hG'
  go_wp2_with fail
  have hG' := hG.alloc (.cells #[.string y3, .bool z3] 46)
  clear hG
  generalize w3.alloc (.cells #[.string y3, .bool z3] 46) = W3 at *
  generalize w3.heap.size = g3 at *
  refine (Pk.reftext_any y3 z3 x4 y4 z4 H4.out hy3 _).mono ?_
  rintro e w4 ⟨rfl, hb⟩
  have hG := hG'.over hb
  clear hb hG'
  go_wp2_with fail
  have hG' := hG.alloc (.cells #[.string y4, .bool z4] 46)
  clear hG
  generalize w4.alloc (.cells #[.string y4, .bool z4] 46) = W4 at *
  generalize w4.heap.size = g4 at *
  refine (Pk.reftext_any y4 z4 x5 y5 z5 H5.out hy4 _).mono ?_
  rintro e w5 ⟨rfl, hb⟩
  have hG := hG'.over hb
  clear hb hG'
  go_wp2_with fail
  have hG' := (hG.alloc (.cells #[.string y5, .bool z5] 46)).alloc (.cells #[.int .i64 (n1 : Int), .int .i64 (n2 : Int), .int .u32 (n3 : Int), .string x4, .string x5] 32)
  have h7 := (Rw.Row.newAt w5 [.string y5, .bool z5] 46 _ rfl).alloc (.cells #[.int .i64 (n1 : Int), .int .i64 (n2 : Int), .int .u32 (n3 : Int), .string x4, .string x5] 32)
  have h8 := Rw.Row.newAt (w5.alloc (.cells #[.string y5, .bool z5] 46)) [.int .i64 (n1 : Int), .int .i64 (n2 : Int), .int .u32 (n3 : Int), .string x4, .string x5] 32 (w5.heap.size + 1) (by simp)
  have hlt := hG.2.2.1.1
  clear hG
  generalize (w5.alloc (.cells #[.string y5, .bool z5] 46)).alloc (.cells #[.int .i64 (n1 : Int), .int .i64 (n2 : Int), .int .u32 (n3 : Int), .string x4, .string x5] 32) = W5 at *
  generalize w5.heap.size = g at *
  refine (refright_any n1 n2 n3 x4 x5 p HP.out _).mono ?_
  rintro e w6 ⟨rfl, hb⟩
  have hG := hG'.over hb
  have h76 := h7.over hb
  have h86 := h8.over hb
  clear hb hG' h7 h8
  have ⟨A0, AA0⟩ := h76.2 0 _ rfl
  have ⟨A1, AA1⟩ := h76.2 1 _ rfl
  have ⟨N0, NN0⟩ := h86.2 0 _ rfl
  have ⟨N1, NN1⟩ := h86.2 1 _ rfl
  have ⟨N2, NN2⟩ := h86.2 2 _ rfl
  have ⟨N3, NN3⟩ := h86.2 3 _ rfl
  have ⟨N4, NN4⟩ := h86.2 4 _ rfl
  have ⟨D0, DD0⟩ := hG.2.1.2 0 _ rfl
  have ⟨D1, DD1⟩ := hG.2.1.2 1 _ rfl
  have ⟨D2, DD2⟩ := hG.2.1.2 2 _ rfl
  have ⟨D3, DD3⟩ := hG.2.1.2 3 _ rfl
  have ⟨D4, DD4⟩ := hG.2.1.2 4 _ rfl
  have ⟨R0, RR0⟩ := hG.2.2.1.2 0 _ rfl
  have ⟨R1, RR1⟩ := hG.2.2.1.2 1 _ rfl
  rcases hw with ⟨rfl, rfl, rfl, rfl, rfl, rfl, rfl, rfl, rfl⟩ | ⟨rfl | ⟨rfl, rfl⟩, rfl, rfl, rfl, rfl, rfl, rfl, rfl⟩
  · go_wp2
    go_region
    go_wp2
    have hE := (hG.fin (.int .i64 (n1 : Int)) (.int .i64 (n2 : Int)) (.int .u32 (n3 : Int)) (.string k) (.string v) (.string t) (.bool false)).drew
    exact bodyPost_ret (v := .tuple #[.agg #[.int .i64 (n1 : Int), .int .i64 (n2 : Int), .int .u32 (n3 : Int), .string k, .string v], .agg #[.string t, .bool false]]) (by simp [results, Tryd.results22, go_sem, D0, D1, D2, D3, D4, R0, R1]) rfl ⟨rfl, hE⟩
  all_goals
    go_wp2
    have hE := (hG.fin (.int .i64 0) (.int .i64 0) (.int .u32 0) (.string ⟨#[]⟩) (.string ⟨#[]⟩) (.string ⟨#[]⟩) (.bool true))
    exact bodyPost_ret (v := .tuple #[.agg #[.int .i64 0, .int .i64 0, .int .u32 0, .string ⟨#[]⟩, .string ⟨#[]⟩], .agg #[.string ⟨#[]⟩, .bool true]]) (by simp [results, Tryd.results22, go_sem, D0, D1, D2, D3, D4, R0, R1]) rfl ⟨rfl, hE⟩
end Go.Proofs.YtolgboedinbpeaaDoor.Cm
