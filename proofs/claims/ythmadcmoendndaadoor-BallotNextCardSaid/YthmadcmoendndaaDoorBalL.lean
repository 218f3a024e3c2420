/-
  What the rows' list of package variables gives: the library's table of powers of ten.
-/
import Derived.Test.YthmadcmoendndaaDoorRows
import Derived.Test.YthmadcmoendndaaDoorBalE
import Derived.Stop.LaidErr
import Derived.LaidMore
namespace Go.Proofs.YthmadcmoendndaaDoor.Bl
open Go.RowKit

theorem tab_type : (Tryd.prog.globals[0]?).map (·.type) = some 77 := by kernel_rfl
theorem cells54 : Tryd.prog.cellsOf 54 = 1 := by kernel_rfl
theorem cells77 : Tryd.prog.cellsOf 77 = 20 := by kernel_rfl
theorem tab_of {W : World} (h : laidMetH Tryd.prog [("math/bits.deBruijn32tab", Rows.laid_math_bits_deBruijn32tab), ("math/bits.deBruijn64tab", Rows.laid_math_bits_deBruijn64tab), ("internal/strconv.uint64pow10", Rows.laid_internal_strconv_uint64pow10)] W) : Tab W := by
  have h' : laidMet Tryd.prog [("math/bits.deBruijn32tab", Rows.laid_math_bits_deBruijn32tab), ("math/bits.deBruijn64tab", Rows.laid_math_bits_deBruijn64tab), ("internal/strconv.uint64pow10", Rows.laid_internal_strconv_uint64pow10)] W := h
  exact Lib.tabIs_of_head (rest := []) tab_at tab_type Tryd.underlying77 Tryd.underlying54 cells54 cells77 h'.tail.tail

theorem cat_nil (s : ByteArray) : s ++ ⟨#[]⟩ = s := by
  apply ByteArray.ext
  rw [ByteArray.data_append]
  simp
theorem low_is (v l : Int) (h : v % 256 = l) : ((low v : Nat) : Int) = l := by unfold low; omega
/-- a ballot that is put, and got -/
theorem get_self (r v l : Int) (h0 : 0 ≤ r) (h1 : r ≤ 4294967295) (hl : v % 256 = l) : getB (putB r v) false = if rightB r l = true then (r, l, ⟨#[]⟩, false) else (0, 0, ⟨#[]⟩, true) := by
  have h := get_put r v ⟨#[]⟩ h0 h1
  rw [cat_nil, low_is v l hl] at h
  exact h
theorem and_fin : ∀ n : Fin 256, bits .and .i64 ((n.val : Int) - 128) 255 = ((n.val : Int) - 128) % 256 := by decide +kernel
theorem and_low (v : Int) (h : -128 ≤ v ∧ v ≤ 127) : bits .and .i64 v 255 = v % 256 := by
  have := and_fin ⟨(v + 128).toNat, by omega⟩
  simp only at this
  rw [show (((v + 128).toNat : Nat) : Int) - 128 = v by omega] at this
  exact this

theorem Pair.set0 {w : World} {g : Nat} {s b : Value} (h : Pair w g s b) (u : Value) : Pair (w.setCell ⟨g, 0, none⟩ u) g u b := by
  obtain ⟨h0, h1, h2, h3, h4⟩ := h
  exact ⟨by simpa [World.setCell] using h0, World.cell?_setCell_same _ _ _ h1, by rw [World.cell?_setCell_other _ _ _ _ (by simp), h2], by rw [World.frozen?_setCell, h3], by rw [World.frozen?_setCell, h4]⟩
theorem Pair.set1 {w : World} {g : Nat} {s b : Value} (h : Pair w g s b) (u : Value) : Pair (w.setCell ⟨g, 1, none⟩ u) g s u := by
  obtain ⟨h0, h1, h2, h3, h4⟩ := h
  exact ⟨by simpa [World.setCell] using h0, by rw [World.cell?_setCell_other _ _ _ _ (by simp), h1], World.cell?_setCell_same _ _ _ h2, by rw [World.frozen?_setCell, h3], by rw [World.frozen?_setCell, h4]⟩
theorem Tab.set {w0 w : World} {p : Addr} {u : Value} (h : Tab w0) (hb : Below w0.heap.size w0 w) (hp : w0.heap.size ≤ p.block) : Tab (w.setCell p u) := h.over (hb.setCell hp u)
theorem order_right (r v : Int) (h : rightB r v = true) (z : zeroB r v = false) : orderB r v 0 0 = 1 := by
  have h1 := (rightB_iff r v).1 h
  have h2 : ¬ (r = 0 ∧ v = 0) := fun c => by rw [(zeroB_iff r v).2 c] at z; cases z
  have := (order_pos_iff r v 0 0).2 (by omega)
  have := order_lo r v 0 0
  omega
end Go.Proofs.YthmadcmoendndaaDoor.Bl
