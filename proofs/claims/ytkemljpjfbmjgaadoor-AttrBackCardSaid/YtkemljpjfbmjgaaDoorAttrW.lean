/-
  Contracts: of a number with a list of pairs: right, both, as the document's. Conditions: as each theorem says.
-/
import Derived.Test.YtkemljpjfbmjgaaDoorAttrM
import Derived.Test.YtkemljpjfbmjgaaDoorDepsA
import Derived.Test.YtkemljpjfbmjgaaDoorDepsU
import Derived.Test.YtkemljpjfbmjgaaDoorDepsZ
import Derived.Test.YtkemljpjfbmjgaaDoorPair
import Derived.Deep.RegionHeld3
import Derived.Deep.RegionLaw
namespace Go.Proofs.YtkemljpjfbmjgaaDoor.At
open Go.RowKit
open Dp (ID IsSet setD joinD putD getD textD triple Ids Idz)
open Bl (Pair below_then below_set2)
set_option maxRecDepth 100000

/-- every block of L holds its two values; nothing below B has turned since w0 -/
def Held (w0 : World) (B : Nat) (L : List (Nat × Value × Value)) (w : World) : Prop := Below B w0 w ∧ B ≤ w.heap.size ∧ ∀ x ∈ L, Pair w x.1 x.2.1 x.2.2
section
variable {w0 w w' : World} {B : Nat} {L : List (Nat × Value × Value)}
theorem Held.keep (hb : Below w.heap.size w w') (h : Held w0 B L w) : Held w0 B L w' :=
  ⟨below_then h.1 hb h.2.1, Nat.le_trans h.2.1 hb.size, fun x hx => (h.2.2 x hx).over hb⟩
theorem Held.drew (h : Held w0 B L w) : Held w0 B L w.drew := ⟨h.1.drew, h.2.1, fun x hx => (h.2.2 x hx).drew⟩
theorem Held.at (h : Held w0 B L w) (i : Nat) {g : Nat} {u v : Value} (hi : L[i]? = some (g, u, v)) : Pair w g u v := h.2.2 (g, u, v) (List.mem_of_getElem? hi)
theorem Held.put (h : Held w0 B L w) {k : Nat} (hk : ∀ x ∈ L, k ≠ x.1) (hB : B ≤ k) (u v : Value) : Held w0 B L ((w.setCell ⟨k, 0, none⟩ u).setCell ⟨k, 1, none⟩ v) :=
  ⟨below_set2 h.1 hB u v, by simpa [World.setCell] using h.2.1, fun x hx => (h.2.2 x hx).far2 k (hk x hx) u v⟩
theorem Held.nil (w : World) : Held w w.heap.size [] w := ⟨Below.refl _ _, Nat.le_refl _, fun x hx => by cases hx⟩
/-- one block more -/
theorem Held.new (h : Held w0 B L w) (u v : Value) (t : TypeId) (g : Nat) (hg : g = w.heap.size) : Held w0 B ((g, u, v) :: L) (w.alloc (.cells #[u, v] t)) := by
  subst hg
  refine ⟨h.1.alloc h.2.1 _, by have := h.2.1; simp; omega, fun x hx => ?_⟩
  rcases List.mem_cons.1 hx with rfl | hx
  · exact Pair.new _ _ _ _
  · exact (h.2.2 x hx).alloc _
/-- the cells of the first block -/
theorem Held.two {k : Nat} {c d : Value} {M : List (Nat × Value × Value)} (h : Held w0 B ((k, c, d) :: M) w) : w.cell? ⟨k, 0, none⟩ = some c ∧ w.cell? ⟨k, 1, none⟩ = some d ∧ w.frozen? ⟨k, 0, none⟩ = false ∧ w.frozen? ⟨k, 1, none⟩ = false :=
  ⟨(h.at 0 rfl).2.1, (h.at 0 rfl).2.2.1, (h.at 0 rfl).2.2.2.1, (h.at 0 rfl).2.2.2.2⟩
theorem Held.load1 {k g : Nat} {a b c d : Value} (h : Held w0 B [(k, c, d), (g, a, b)] w) : w.cell? ⟨g, 0, none⟩ = some a ∧ w.cell? ⟨g, 1, none⟩ = some b := ⟨(h.at 1 rfl).2.1, (h.at 1 rfl).2.2.1⟩
theorem Held.load1p {k g : Nat} {a b c d : Value} (h : Held w0 B [(k, c, d), (g, a, b)] w) (hk : k ≠ g) (u v : Value) :
    ((w.setCell ⟨k, 0, none⟩ u).setCell ⟨k, 1, none⟩ v).cell? ⟨g, 0, none⟩ = some a ∧ ((w.setCell ⟨k, 0, none⟩ u).setCell ⟨k, 1, none⟩ v).cell? ⟨g, 1, none⟩ = some b :=
  ⟨((h.at 1 rfl).far2 k hk u v).2.1, ((h.at 1 rfl).far2 k hk u v).2.2.1⟩
theorem Held.load2 {k g r : Nat} {a b c d u v : Value} (h : Held w0 B [(r, u, v), (k, c, d), (g, a, b)] w) : w.cell? ⟨g, 0, none⟩ = some a ∧ w.cell? ⟨g, 1, none⟩ = some b ∧ w.cell? ⟨k, 0, none⟩ = some c ∧ w.cell? ⟨k, 1, none⟩ = some d :=
  ⟨(h.at 2 rfl).2.1, (h.at 2 rfl).2.2.1, (h.at 1 rfl).2.1, (h.at 1 rfl).2.2.1⟩
theorem Held.load2p {k g r : Nat} {a b c d u0 v0 : Value} (h : Held w0 B [(r, u0, v0), (k, c, d), (g, a, b)] w) (hk : r ≠ k) (hg : r ≠ g) (u v : Value) :
    ((w.setCell ⟨r, 0, none⟩ u).setCell ⟨r, 1, none⟩ v).cell? ⟨g, 0, none⟩ = some a ∧ ((w.setCell ⟨r, 0, none⟩ u).setCell ⟨r, 1, none⟩ v).cell? ⟨g, 1, none⟩ = some b ∧ ((w.setCell ⟨r, 0, none⟩ u).setCell ⟨r, 1, none⟩ v).cell? ⟨k, 0, none⟩ = some c ∧ ((w.setCell ⟨r, 0, none⟩ u).setCell ⟨r, 1, none⟩ v).cell? ⟨k, 1, none⟩ = some d :=
  ⟨((h.at 2 rfl).far2 r hg u v).2.1, ((h.at 2 rfl).far2 r hg u v).2.2.1, ((h.at 1 rfl).far2 r hk u v).2.1, ((h.at 1 rfl).far2 r hk u v).2.2.1⟩
end
/-- a cell that holds no whole number is stored -/
theorem idz_set {w : World} {ao : Option Addr} {cap : Nat} {xs : List ID} (h : Idz w ao cap xs) {q : Addr} {v : Value} (hq : w.cell? q = some v) (hv : ∀ i, v ≠ .int .i64 i) (u : Value) : Idz (w.setCell q u) ao cap xs :=
  ⟨⟨h.le, h.capl, fun j hj => by
    obtain ⟨x, e, hx, h0, h1⟩ := h.lies j hj
    have n0 : q ≠ x.add (j * 2) := fun e => by rw [e, h0] at hq; exact hv _ (Option.some.inj hq).symm
    have n1 : q ≠ x.add (j * 2 + 1) := fun e => by rw [e, h1] at hq; exact hv _ (Option.some.inj hq).symm
    exact ⟨x, e, by simpa [World.setCell] using hx, by rw [World.cell?_setCell_other _ _ _ _ n0, h0], by rw [World.cell?_setCell_other _ _ _ _ n1, h1]⟩⟩, h.empty⟩
/-- both cells of a block of a number and a slice are stored -/
theorem idz_set2 {w : World} {ao : Option Addr} {cap : Nat} {xs : List ID} (h : Idz w ao cap xs) {k : Nat} {u0 : Int} {v0 : Value} (hp : Pair w k (.int .u32 u0) v0) (hv : ∀ i, v0 ≠ .int .i64 i) (u v : Value) :
    Idz ((w.setCell ⟨k, 0, none⟩ u).setCell ⟨k, 1, none⟩ v) ao cap xs :=
  idz_set (idz_set h hp.2.1 (fun i e => by injection e with e _; cases e) u) (by rw [World.cell?_setCell_other _ _ _ _ (by simp)]; exact hp.2.2.1) hv v

/-- the answer's two cells, stored -/
theorem idz_out {w0 w : World} {B : Nat} {L : List (Nat × Value × Value)} {ao : Option Addr} {cap : Nat} {xs : List ID} (h : Idz w ao cap xs) (hH : Held w0 B L w) (i : Nat) {k : Nat} (hi : L[i]? = some (k, .int .u32 0, .slice none 0 0)) (hB : B ≤ k) (u v : Value) :
    Idz ((w.setCell ⟨k, 0, none⟩ u).setCell ⟨k, 1, none⟩ v) ao cap xs ∧ Below B w0 ((w.setCell ⟨k, 0, none⟩ u).setCell ⟨k, 1, none⟩ v) :=
  ⟨idz_set2 h (hH.at i hi) (fun i e => by cases e) u v, below_set2 hH.1 hB u v⟩
theorem refattr_any (n : Nat) (xs : List ID) (ao : Option Addr) (ca : Nat) (hl : xs.length ≤ 1048576) (w : World) (ra : Ids w ao ca xs) :
    Calls Tryd.prog 13 #[.agg #[.int .u32 n, .slice ao xs.length ca]] w fun e w' => ∃ v cv, e = .returned (.agg #[.int .u32 n, .slice v xs.length cv]) ∧ Idz w' v cv xs ∧ Below w.heap.size w w' := by
  have HA := Lib.hid (fun W (h : Below w.heap.size w W) => ra.kept h)
  clear ra
  go_enter Tryd.func13, Tryd.ntmps13
  go_wp2
  have hH := (((Held.nil w).new (.int .u32 n) (.slice ao xs.length ca) 25 w.heap.size rfl).new (.int .u32 0) (.slice none 0 0) 36 (w.heap.size + 1) (by simp)).drew
  generalize ((w.alloc (.cells #[.int .u32 n, .slice ao xs.length ca] 25)).alloc (.cells #[.int .u32 0, .slice none 0 0] 36)) = W at *
  have HC := Lib.hid (fun W (h : Held w w.heap.size [(w.heap.size + 1, .int .u32 0, .slice none 0 0), (w.heap.size, .int .u32 n, .slice ao xs.length ca)] W) => h.two)
  have HL := Lib.hid (fun W (h : Held w w.heap.size [(w.heap.size + 1, .int .u32 0, .slice none 0 0), (w.heap.size, .int .u32 n, .slice ao xs.length ca)] W) => h.load1)
  have HP := Lib.hid (fun W (h : Held w w.heap.size [(w.heap.size + 1, .int .u32 0, .slice none 0 0), (w.heap.size, .int .u32 n, .slice ao xs.length ca)] W) u v => h.load1p (by omega) u v)
  go_region_held3 (fun w' => w'.cell? ⟨w.heap.size, 0, none⟩ = some (.int .u32 n) ∧ w'.cell? ⟨w.heap.size, 1, none⟩ = some (.slice ao xs.length ca)) (first | exact HL.out _ (by assumption) | exact HP.out _ (by assumption) _ _) ((go_at_call 31; refine (Dp.refset_of xs ao ca hl _ (HA.out _ (And.left (by assumption)))).mono ?_; rintro e w3 ⟨v, cv, rfl, iv, hb3⟩; have hp3 := Held.keep hb3 (by assumption); have ⟨A0, A1, A2, A3⟩ := (HC.out _ hp3)))
  go_wp2
  have hO := idz_out iv hp3 0 rfl (Nat.le_succ _) (.int .u32 n) (.slice v xs.length cv)
  exact bodyPost_ret (v := .agg #[.int .u32 n, .slice v xs.length cv]) (by simp [results, Tryd.results13, go_sem, A0, A1]) rfl ⟨_, _, rfl, hO⟩

theorem join_any (n m c : Nat) (hc : max n m = c) (xs ys zs : List ID) (h : joinD xs ys = zs) (sx : IsSet xs) (sy : IsSet ys) (hx : xs.length ≤ 1048576) (hy : ys.length ≤ 1048576) (ao bo : Option Addr) (ca cb : Nat) (w : World) (ra : Idz w ao ca xs) (rb : Idz w bo cb ys) :
    Calls Tryd.prog 14 #[.agg #[.int .u32 n, .slice ao xs.length ca], .agg #[.int .u32 m, .slice bo ys.length cb]] w fun e w' => ∃ v cv, e = .returned (.agg #[.int .u32 c, .slice v zs.length cv]) ∧ Idz w' v cv zs ∧ Below w.heap.size w w' := by
  have HA := Lib.hid (fun W (h : Below w.heap.size w W) => ra.kept h)
  have HB := Lib.hid (fun W (h : Below w.heap.size w W) => rb.kept h)
  have hmax : ∀ W, (Builtin.max_ #[22, 22] 22 #[.int .u32 (n : Int), .int .u32 (m : Int)]).run Tryd.prog W = .ok (.int .u32 (c : Int)) W := by
    intro W
    rw [run_max_int2]
    congr 2
    split <;> omega
  clear ra rb
  go_enter Tryd.func14, Tryd.ntmps14
  go_wp2
  have hH := ((((Held.nil w).new (.int .u32 n) (.slice ao xs.length ca) 25 w.heap.size rfl).new (.int .u32 m) (.slice bo ys.length cb) 25 (w.heap.size + 1) (by simp)).new (.int .u32 0) (.slice none 0 0) 25 (w.heap.size + 1 + 1) (by simp)).drew
  generalize (((w.alloc (.cells #[.int .u32 n, .slice ao xs.length ca] 25)).alloc (.cells #[.int .u32 m, .slice bo ys.length cb] 25)).alloc (.cells #[.int .u32 0, .slice none 0 0] 25)) = W at *
  have HC := Lib.hid (fun W (h : Held w w.heap.size [(w.heap.size + 1 + 1, .int .u32 0, .slice none 0 0), (w.heap.size + 1, .int .u32 m, .slice bo ys.length cb), (w.heap.size, .int .u32 n, .slice ao xs.length ca)] W) => h.two)
  have HL := Lib.hid (fun W (h : Held w w.heap.size [(w.heap.size + 1 + 1, .int .u32 0, .slice none 0 0), (w.heap.size + 1, .int .u32 m, .slice bo ys.length cb), (w.heap.size, .int .u32 n, .slice ao xs.length ca)] W) => h.load2)
  have HP := Lib.hid (fun W (h : Held w w.heap.size [(w.heap.size + 1 + 1, .int .u32 0, .slice none 0 0), (w.heap.size + 1, .int .u32 m, .slice bo ys.length cb), (w.heap.size, .int .u32 n, .slice ao xs.length ca)] W) u v => h.load2p (by omega) (by omega) u v)
  go_region_held3 (fun w' => w'.cell? ⟨w.heap.size, 0, none⟩ = some (.int .u32 n) ∧ w'.cell? ⟨w.heap.size, 1, none⟩ = some (.slice ao xs.length ca) ∧ w'.cell? ⟨w.heap.size + 1, 0, none⟩ = some (.int .u32 m) ∧ w'.cell? ⟨w.heap.size + 1, 1, none⟩ = some (.slice bo ys.length cb)) (first | exact HL.out _ (by assumption) | exact HP.out _ (by assumption) _ _) ((go_at_call 32; refine (Dp.join_any xs ys zs h sx sy ao bo ca cb hx hy _ (HA.out _ (And.left (by assumption))) (HB.out _ (And.left (by assumption)))).mono ?_; rintro e w3 ⟨v, cv, rfl, iv, hb3⟩; have hp3 := Held.keep hb3 (by assumption); have ⟨A0, A1, A2, A3⟩ := (HC.out _ hp3)))
  all_goals (
    go_wp2
    have hO := idz_out iv hp3 0 rfl (by omega) (.int .u32 c) (.slice v zs.length cv)
    exact bodyPost_ret (v := .agg #[.int .u32 c, .slice v zs.length cv]) (by simp [results, Tryd.results14, go_sem, A0, A1]) rfl ⟨_, _, rfl, hO⟩)

theorem refjoin_any (n m c : Nat) (hc : max n m = c) (xs ys zs : List ID) (h : joinD xs ys = zs) (hl : xs.length + ys.length ≤ 1048575) (ao bo : Option Addr) (ca cb : Nat) (w : World) (ra : Idz w ao ca xs) (rb : Idz w bo cb ys) :
    Calls Tryd.prog 15 #[.agg #[.int .u32 n, .slice ao xs.length ca], .agg #[.int .u32 m, .slice bo ys.length cb]] w fun e w' => ∃ v cv, e = .returned (.agg #[.int .u32 c, .slice v zs.length cv]) ∧ Idz w' v cv zs ∧ Below w.heap.size w w' := by
  have HA := Lib.hid (fun W (h : Below w.heap.size w W) => ra.kept h)
  have HB := Lib.hid (fun W (h : Below w.heap.size w W) => rb.kept h)
  have hmax : ∀ W, (Builtin.max_ #[22, 22] 22 #[.int .u32 (n : Int), .int .u32 (m : Int)]).run Tryd.prog W = .ok (.int .u32 (c : Int)) W := by
    intro W
    rw [run_max_int2]
    congr 2
    split <;> omega
  clear ra rb
  go_enter Tryd.func15, Tryd.ntmps15
  go_wp2
  have hH := ((((Held.nil w).new (.int .u32 n) (.slice ao xs.length ca) 36 w.heap.size rfl).new (.int .u32 m) (.slice bo ys.length cb) 36 (w.heap.size + 1) (by simp)).new (.int .u32 0) (.slice none 0 0) 36 (w.heap.size + 1 + 1) (by simp)).drew
  generalize (((w.alloc (.cells #[.int .u32 n, .slice ao xs.length ca] 36)).alloc (.cells #[.int .u32 m, .slice bo ys.length cb] 36)).alloc (.cells #[.int .u32 0, .slice none 0 0] 36)) = W at *
  have HC := Lib.hid (fun W (h : Held w w.heap.size [(w.heap.size + 1 + 1, .int .u32 0, .slice none 0 0), (w.heap.size + 1, .int .u32 m, .slice bo ys.length cb), (w.heap.size, .int .u32 n, .slice ao xs.length ca)] W) => h.two)
  have HL := Lib.hid (fun W (h : Held w w.heap.size [(w.heap.size + 1 + 1, .int .u32 0, .slice none 0 0), (w.heap.size + 1, .int .u32 m, .slice bo ys.length cb), (w.heap.size, .int .u32 n, .slice ao xs.length ca)] W) => h.load2)
  have HP := Lib.hid (fun W (h : Held w w.heap.size [(w.heap.size + 1 + 1, .int .u32 0, .slice none 0 0), (w.heap.size + 1, .int .u32 m, .slice bo ys.length cb), (w.heap.size, .int .u32 n, .slice ao xs.length ca)] W) u v => h.load2p (by omega) (by omega) u v)
  go_region_held3 (fun w' => w'.cell? ⟨w.heap.size, 0, none⟩ = some (.int .u32 n) ∧ w'.cell? ⟨w.heap.size, 1, none⟩ = some (.slice ao xs.length ca) ∧ w'.cell? ⟨w.heap.size + 1, 0, none⟩ = some (.int .u32 m) ∧ w'.cell? ⟨w.heap.size + 1, 1, none⟩ = some (.slice bo ys.length cb)) (first | exact HL.out _ (by assumption) | exact HP.out _ (by assumption) _ _) ((go_at_call 33; refine (Dp.refjoin_any xs ys zs h ao bo ca cb hl _ (HA.out _ (And.left (by assumption))) (HB.out _ (And.left (by assumption))).toIds).mono ?_; rintro e w3 ⟨v, cv, rfl, iv, hb3⟩; have hp3 := Held.keep hb3 (by assumption); have ⟨A0, A1, A2, A3⟩ := (HC.out _ hp3)))
  all_goals (
    go_wp2
    have hO := idz_out iv hp3 0 rfl (by omega) (.int .u32 c) (.slice v zs.length cv)
    exact bodyPost_ret (v := .agg #[.int .u32 c, .slice v zs.length cv]) (by simp [results, Tryd.results15, go_sem, A0, A1]) rfl ⟨_, _, rfl, hO⟩)
end Go.Proofs.YtkemljpjfbmjgaaDoor.At
