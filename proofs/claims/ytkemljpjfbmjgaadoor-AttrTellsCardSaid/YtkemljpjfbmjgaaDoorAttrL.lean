/-
  What the laws share: numbers and lists that come in, a row of four. Conditions: as each theorem says.
-/
import Derived.Test.YtkemljpjfbmjgaaDoorAttrE
import Derived.Test.YtkemljpjfbmjgaaDoorAttrA
import Derived.Test.YtkemljpjfbmjgaaDoorRow
import Derived.Test.YtkemljpjfbmjgaaDoorDepsG
namespace Go.Proofs.YtkemljpjfbmjgaaDoor.At
open Go.RowKit
open Dp (ID IsSet setD putD textD InR Ids Idz Bts fewD)

theorem few_facts {bs : List Nat} {z : List ID} (h : fewD (bs.take 20) = z) : IsSet z ∧ z.length ≤ 36 ∧ InR z ∧ z.length ≤ 400 := by
  subst h
  have hl := Dp.few_length (bs.take 20)
  refine ⟨Dp.few_set _, hl, fun x hx => ?_, by omega⟩
  have := Dp.few_bd hx; omega
/-- a right one is put -/
theorem put_yes (n : Nat) (z : List ID) (hz : IsSet z) (hl : z.length ≤ 400) : ∃ s, putA (n, z) = (s, true) ∧ s.size = 6 + 4 * z.length := by
  obtain ⟨s, ok, e⟩ : ∃ s ok, putA (n, z) = (s, ok) := ⟨_, _, rfl⟩
  obtain rfl : ok = true := by
    rcases put_way _ _ _ e with ⟨_, h, _⟩ | ⟨h, _⟩
    · exact h
    · have := (right_iff (n, z)).2 ⟨hz, hl⟩
      rw [this] at h; cases h
  exact ⟨s, e, put_size _ _ e⟩
/-- what is read is not long -/
theorem get_short (s : ByteArray) (b : Bool) (n : Nat) (xs : List ID) (t : ByteArray) (c : Bool) (h : getA s b = ((n, xs), t, c)) : xs.length ≤ 400 := by
  obtain ⟨m, y, z, l, _, _, _, h2, hw⟩ := getA_way s b n xs t c h
  rcases hw with ⟨_, _, rfl⟩ | ⟨_, _, rfl, _⟩
  · obtain ⟨k, _, _, _, _, _, hw⟩ := Dp.getD_way _ _ _ _ _ h2
    rcases hw with ⟨_, q, _, _⟩ | ⟨h4, us, _, _, _, hl, hw⟩
    · rw [q]; simp
    · rcases hw with ⟨_, _, q, _⟩ | ⟨_, q, _⟩
      · rw [q]; omega
      · rw [q]; simp
  · simp
/-- a whole number of 32 bits that came in -/
theorem nat_of {a : Int} (h : (Lit.int .u32 a).wf = true) : ∃ n : Nat, a = (n : Int) ∧ n < 4294967296 := by
  have q : 0 ≤ a ∧ a ≤ 4294967295 := by simpa [Lit.wf, IntKind.min, IntKind.max, IntKind.signed, IntKind.bits] using h
  exact ⟨a.toNat, by omega, by omega⟩
theorem row_four {W : World} {g : Nat} {a b c d : Value} (h : Rw.Row W g [a, b, c, d]) :
    g < W.heap.size ∧ W.cell? ⟨g, 0, none⟩ = some a ∧ W.cell? ⟨g, 1, none⟩ = some b ∧ W.cell? ⟨g, 2, none⟩ = some c ∧ W.cell? ⟨g, 3, none⟩ = some d ∧ W.frozen? ⟨g, 2, none⟩ = false :=
  ⟨h.1, (h.2 0 _ rfl).1, (h.2 1 _ rfl).1, (h.2 2 _ rfl).1, (h.2 3 _ rfl).1, (h.2 2 _ rfl).2⟩
/-- a block of four, new -/
theorem row_new (w : World) (a b c d : Value) (t : TypeId) : Rw.Row (w.alloc (.cells #[a, b, c, d] t)) w.heap.size [a, b, c, d] := Rw.Row.newAt w [a, b, c, d] t _ rfl
theorem row_newAt (w : World) (a b c d : Value) (t : TypeId) (g : Nat) (h : g = w.heap.size) : Rw.Row (w.alloc (.cells #[a, b, c, d] t)) g [a, b, c, d] := Rw.Row.newAt w [a, b, c, d] t g h
theorem below_own {B k : Nat} {w w' : World} (h : Below B w w') (hk : B ≤ k) (u : Value) : Below B w (w'.setCell ⟨k, 2, none⟩ u) := h.setCell (p := ⟨k, 2, none⟩) hk u
/-- its third value is stored -/
theorem row_own {W : World} {g : Nat} {a b c d : Value} (h : Rw.Row W g [a, b, c, d]) (u : Value) : Rw.Row (W.setCell ⟨g, 2, none⟩ u) g [a, b, u, d] := h.set 2 u c rfl _ rfl
/-- pairs that came in -/
theorem idz_of {w : World} {ao : Option Addr} {cap len : Nat} (l : len ≤ cap) (m : cap ≤ maxLen) (o : ao = none → cap = 0)
    (h : ∀ i, i < len → ∃ (x : Addr) (e0 e1 : Int), ao = some x ∧ x.block < w.heap.size ∧ w.cell? (x.add (i * 2)) = some (.int .i64 e0) ∧ w.cell? (x.add (i * 2 + 1)) = some (.int .i64 e1) ∧ (Lit.int .i64 e0).wf = true ∧ (Lit.int .i64 e1).wf = true) :
    ∃ xs : List ID, xs.length = len ∧ Idz w ao cap xs ∧ InR xs := by
  obtain ⟨xs, hl, hi, hr⟩ := Dp.Ids.of l m h
  exact ⟨xs, hl, ⟨hi, o⟩, hr⟩
theorem put_len (n : Nat) (hn : n < 4294967296) (xs : List ID) (k : Nat) (hk : xs.length = k) (x : ByteArray) (ok : Bool) (h : putA (n, xs) = (x, ok)) (hl : xs.length ≤ 1048576) (ao : Option Addr) (ca : Nat) (w : World) (ra : Ids w ao ca xs) :
    Calls Tryd.prog 11 #[.agg #[.int .u32 n, .slice ao k ca]] w fun e w' => e = .returned (.tuple #[.string x, .bool ok]) ∧ Below w.heap.size w w' := by
  subst hk; exact put_any n hn xs x ok h hl ao ca w ra
theorem right_len (n : Nat) (xs : List ID) (k : Nat) (hk : xs.length = k) (z : Bool) (h : rightA (n, xs) = z) (ao : Option Addr) (ca : Nat) (w : World) (ra : Ids w ao ca xs) :
    Calls Tryd.prog 17 #[.agg #[.int .u32 n, .slice ao k ca]] w fun e w' => e = .returned (.bool z) ∧ Below w.heap.size w w' := by
  subst hk; exact right_any n xs z h ao ca w ra
theorem pair_of {B : Nat} {w W : World} (_k : Below B w W) (u v : Value) (t : TypeId) : Bl.Pair (W.alloc (.cells #[u, v] t)) W.heap.size u v := Bl.Pair.new W u v t
theorem below_of {B : Nat} {w W : World} (_k : Below B w W) (o : Obj) : Below W.heap.size W (W.alloc o) := Bl.below_1 W o
/-- an attr by its parts: own, or as it came in -/
theorem attr_any (n : Nat) (hn : n < 4294967296) (own : Bool) (xs : List ID) (hx : InR xs) (bs : List Nat) (ao : Option Addr) (ca : Nat) (bo : Option Addr) (cb : Nat) (hle : bs.length ≤ cb) (hm : cb ≤ maxLen) :
    ∃ (m : Nat) (zs : List ID), m < 4294967296 ∧ InR zs ∧ zs.length ≤ 36 ∧ (own = true → IsSet zs) ∧ ∀ w : World, Idz w ao ca xs → Bts w bo bs →
      Calls Tryd.prog 10 #[.agg #[.int .u32 n, .slice ao xs.length ca, .bool own, .slice bo bs.length cb]] w fun e w' => ∃ v cv, e = .returned (.agg #[.int .u32 m, .slice v zs.length cv]) ∧ Idz w' v cv zs ∧ Below w.heap.size w w' := by
  cases own with
  | true =>
    have F := few_facts (bs := bs) rfl
    exact ⟨n % 5, _, by omega, F.2.2.1, F.2.1, fun _ => F.1, fun w _ hb => attr_own n _ rfl bs _ rfl ao xs.length ca bo cb hle hm w hb⟩
  | false =>
    refine ⟨n, xs.take 8, hn, fun x hx' => hx x (List.mem_of_mem_take hx'), (by rw [List.length_take]; omega), (fun h => nomatch h), fun w ra _ => ?_⟩
    refine (attr_as n xs _ rfl ao ca bo bs.length cb w ra).mono ?_
    rintro e w' ⟨rfl, hi, hl, hb⟩
    exact ⟨_, _, by rw [hl], hi, hb⟩
end Go.Proofs.YtkemljpjfbmjgaaDoor.At
