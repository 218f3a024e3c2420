/-
  Contracts: Text, the program's and the document's. Conditions: as each theorem says.
-/
import Derived.Test.YtkemljpjfbmjgaaDoorDepsO
import Derived.Test.YtkemljpjfbmjgaaDoorDepsJ
import Derived.Test.YtkemljpjfbmjgaaDoorDepsT
import Derived.Test.YtkemljpjfbmjgaaDoorBuild
import Derived.Test.YtkemljpjfbmjgaaDoorSign
import Derived.Test.YtkemljpjfbmjgaaDoorBalD
namespace Go.Proofs.YtkemljpjfbmjgaaDoor.Dp
open Go.RowKit
set_option maxRecDepth 100000
open Bl (Tab)

/-- what is told of the first k -/
def textTo (l : List ID) (k : Nat) : ByteArray := ⟨(textD (l.take k)).toArray⟩
theorem cat_l (a b : List UInt8) : (⟨a.toArray⟩ : ByteArray) ++ ⟨b.toArray⟩ = ⟨(a ++ b).toArray⟩ := by apply ByteArray.ext; simp
theorem textTo_first (l : List ID) (h : 0 < l.length) : textTo l 1 = ⟨(Lib.itoa (l.getD 0 (0, 0)).1).toArray⟩ ++ ⟨#[46]⟩ ++ ⟨(Lib.itoa (l.getD 0 (0, 0)).2).toArray⟩ := by
  unfold textTo
  obtain ⟨x, l, rfl⟩ := List.exists_cons_of_length_pos h
  rw [show (⟨#[46]⟩ : ByteArray) = ⟨[46].toArray⟩ from rfl, cat_l, cat_l]
  simp [textD, itemD]
theorem textTo_next (l : List ID) (j : Nat) (h : j + 1 < l.length) : textTo l (j + 1 + 1) = textTo l (j + 1) ++ ⟨#[44]⟩ ++ (⟨(Lib.itoa (l.getD (j + 1) (0, 0)).1).toArray⟩ ++ ⟨#[46]⟩ ++ ⟨(Lib.itoa (l.getD (j + 1) (0, 0)).2).toArray⟩) := by
  unfold textTo
  rw [List.take_succ_eq_append_getElem h, textD_snoc _ _ (by intro e; have := congrArg List.length e; rw [List.length_take, List.length_nil] at this; omega), show (⟨#[46]⟩ : ByteArray) = ⟨[46].toArray⟩ from rfl, show (⟨#[44]⟩ : ByteArray) = ⟨[44].toArray⟩ from rfl, cat_l, cat_l, cat_l, cat_l, List.getD_eq_getElem?_getD, List.getElem?_eq_getElem h]
  simp [itemD]
def InR (l : List ID) : Prop := ∀ x ∈ l, (-9223372036854775808 ≤ x.1 ∧ x.1 ≤ 9223372036854775807) ∧ -9223372036854775808 ≤ x.2 ∧ x.2 ≤ 9223372036854775807
theorem textTo_size (l : List ID) (h : InR l) (k : Nat) : (textTo l k).size ≤ 44 * k := by
  have := text_length (l.take k) (fun x hx => h x (List.mem_of_mem_take hx))
  rw [List.length_take] at this
  have e : (textTo l k).size = (textD (l.take k)).length := by show (List.toArray _).size = _; simp
  omega
theorem in_at {l : List ID} (h : InR l) {k : Nat} (hk : k < l.length) {p q : Int} (e : l.getD k (0, 0) = (p, q)) : (-9223372036854775808 ≤ p ∧ p ≤ 9223372036854775807) ∧ -9223372036854775808 ≤ q ∧ q ≤ 9223372036854775807 := by
  have hm : (p, q) ∈ l := by
    rw [← e, List.getD_eq_getElem?_getD, List.getElem?_eq_getElem hk]
    exact List.getElem_mem hk
  exact h _ hm
/-- a whole number in digits, by a letter -/
structure Digs (f : Int → ByteArray) : Prop where
  is : ∀ n, f n = ⟨(Lib.itoa n).toArray⟩
theorem Digs.size {f : Int → ByteArray} (h : Digs f) (n : Int) (h0 : -9223372036854775808 ≤ n) (h1 : n ≤ 9223372036854775807) : (f n).size ≤ 21 := by
  rw [h.is]
  have := Lib.itoa_length_le n h0 h1
  show (List.toArray _).size ≤ 21
  simpa using this

/-- a text in a builder, and a block beside it -/
structure Txt (w : World) (b bx : Nat) (o : Obj) (s : ByteArray) (W : World) : Prop where
  bel : Below w.heap.size w W
  told : Lib.IsBuilderF 93 5 w.heap.size b (Lib.byteCells s.data.toList) W
  box : W.heap[bx]? = some o
theorem told_over {B b : Nat} {bs : List Value} {W W' : World} (h : Lib.IsBuilderF 93 5 B b bs W) (hb : Below W.heap.size W W') : Lib.IsBuilderF 93 5 B b bs W' := by
  have key : ∀ p, Lib.BuilderAtF 93 5 B b p bs W → Lib.BuilderAtF 93 5 B b p bs W' := by
    rintro p ⟨h1, v, h2, ⟨h3, h4⟩, h5⟩
    refine ⟨h1, v, (hb.block b (Array.getElem?_eq_some_iff.1 h2).1).trans h2, ⟨h3, ?_⟩, h5⟩
    rcases h4 with h4 | ⟨g, cap, cur, fz, rfl, hB, hg, hr⟩
    · exact .inl h4
    · exact .inr ⟨g, cap, cur, fz, rfl, hB, (hb.block g (Array.getElem?_eq_some_iff.1 hg).1).trans hg, hr⟩
  exact h.imp (key _) (key _)
theorem Txt.keep {w W W' : World} {b bx : Nat} {o : Obj} {s : ByteArray} (hb : Below W.heap.size W W') (h : Txt w b bx o s W) : Txt w b bx o s W' :=
  ⟨h.bel.trans (hb.mono h.bel.size), told_over h.told hb, (hb.block bx (Array.getElem?_eq_some_iff.1 h.box).1).trans h.box⟩
theorem txt_write (w : World) (b bx : Nat) (cs : Array Value) (t : TypeId) (fr : Nat × Nat) (s x : ByteArray) (W : World) (h : Txt w b bx (.cells cs t fr) s W) (ht : t ≠ 5) (hbx : bx ≠ b) (hl : s.size + x.size ≤ 140737488355328) :
    Calls Tryd.prog 46 #[.pointer (some ⟨b, 0, none⟩), .string x] W fun e w' => e = .returned (.tuple #[.int .i64 x.size, .nilIface]) ∧ Txt w b bx (.cells cs t fr) (s ++ x) w' := by
  refine (Tryd.Builder_WriteString_k w.heap.size b (Lib.byteCells s.data.toList) x W h.told (by rw [show (Lib.byteCells s.data.toList).length = s.size by simp [Lib.byteCells]]; exact hl) h.bel.size).mono ?_
  rintro e w' ⟨rfl, h1, h2, h3⟩
  refine ⟨rfl, h.bel.trans h2, .inr ?_, h3 _ _ h.box (fun e => hbx (Option.some.inj e)) (fun c fz e => ht (by cases e; rfl))⟩
  have e : Lib.byteCells s.data.toList ++ Lib.strCells x = Lib.byteCells (s ++ x).data.toList := by
    show Lib.byteCells s.data.toList ++ Lib.byteCells x.data.toList = _
    rw [← Lib.byteCells_append]
    simp
  rw [← e]
  exact h1

set_option maxRecDepth 100000 in
set_option maxHeartbeats 1000000 in
theorem text_any (xs : List ID) (t : ByteArray) (h : (⟨(textD xs).toArray⟩ : ByteArray) = t) (hr : InR xs) (hl : xs.length ≤ 1048576) (ao : Option Addr) (ca : Nat) (w : World) (ra : Ids w ao ca xs) (ht : Tab w) :
    Calls Tryd.prog 37 #[.slice ao xs.length ca] w fun e w' => e = .returned (.string t) ∧ Below w.heap.size w w' := by
  have hx : textTo xs xs.length = t := by rw [← h]; unfold textTo; rw [List.take_length]
  have HX := Lib.hid hx
  have HA := Lib.hid ra
  have HT := Lib.hid ht
  have HR := Lib.hid hr
  obtain ⟨f, hf⟩ : ∃ f, Hid (Digs f) := ⟨fun n => ⟨(Lib.itoa n).toArray⟩, Lib.hid ⟨fun _ => rfl⟩⟩
  have CI : Hid (∀ n, (-9223372036854775808 ≤ n ∧ n ≤ 9223372036854775807) → ∀ W, Below w.heap.size w W → Calls Tryd.prog 54 #[.int .i64 n] W fun e w' => e = .returned (.string (f n)) ∧ Below W.heap.size W w') :=
    Lib.hid fun n hn W hW => by rw [hf.out.is]; exact Bl.itoa_any n hn.1 hn.2 W (HT.out.over hW)
  have HN : Hid (Lib.IsBuilderF 93 5 w.heap.size w.heap.size (Lib.byteCells (textTo xs 0).data.toList) (w.alloc (.cells #[.pointer none, .slice none 0 0] 93))) :=
    Lib.hid (Lib.IsBuilderF.of (.inl ⟨Nat.le_refl _, .slice none 0 0, heap_alloc_new _ _, World.ownsRow_nil _ _ _ _, by simp [Value.ownBlock]⟩))
  have HB : Hid (Below w.heap.size w (w.alloc (.cells #[.pointer none, .slice none 0 0] 93)) ∧ w.heap.size < (w.alloc (.cells #[.pointer none, .slice none 0 0] 93)).heap.size) := Lib.hid ⟨(Below.refl _ _).alloc (Nat.le_refl _) _, by simp⟩
  clear h ra ht hr hx
  go_enter Tryd.func37, Tryd.ntmps37
  go_wp2_with fail
  generalize w.alloc (.cells #[.pointer none, .slice none 0 0] 93) = w1 at *
  go_loopw [8] (fun i W => ∃ k : Nat, k ≤ xs.length ∧ i = .int .i64 k ∧ Hid (Lib.IsBuilderF 93 5 w.heap.size w.heap.size (Lib.byteCells (textTo xs k).data.toList) W) ∧ Hid (Below w.heap.size w W ∧ w.heap.size < W.heap.size)) (fun i _ => xs.length - (intOf i).toNat)
  case atStart => exact ⟨0, Nat.zero_le _, rfl, HN, HB⟩
  case round =>
    clear HN HB
    obtain ⟨k, hk, rfl, hN, hW⟩ := hrel
    by_cases hlt : k < xs.length
    · obtain ⟨y, p, q, ex, rfl, hyb, c0, c1⟩ := (HA.out.kept hW.out.1).at hlt
      have hpq := in_at HR.out hlt ex
      obtain ⟨hp, hq⟩ := hpq
      have sp := hf.out.size p hp.1 hp.2
      have sq := hf.out.size q hq.1 hq.2
      have x1 : ¬ 9223372036854775807 < (f p).size + 1 := by omega
      have x2 : ¬ 9223372036854775807 < (f p).size + 1 + (f q).size := by omega
      have hts := textTo_size xs HR.out k
      rcases k with _ | j
      · have hnx := textTo_first xs hlt
        rw [ex, ← hf.out.is, ← hf.out.is] at hnx
        have HX1 := Lib.hid (hnx.trans (show _ = textTo xs 0 ++ (f p ++ ⟨#[46]⟩ ++ f q) from ByteArray.empty_append.symm))
        have HL : Hid ((textTo xs 0).size + (f p ++ ⟨#[46]⟩ ++ f q).size ≤ 140737488355328) := Lib.hid (by
          rw [ByteArray.size_append, ByteArray.size_append, show (⟨#[46]⟩ : ByteArray).size = 1 from rfl]; omega)
        clear hnx ex hts
        obtain ⟨s0, hs0⟩ : ∃ s0, textTo xs 0 = s0 := ⟨_, rfl⟩
        rw [hs0] at hN HX1 HL
        have f0 : wr.cell? y = some (.int .i64 p) := by simpa [Addr.add] using c0
        have f1 : wr.cell? ⟨y.block, y.off + 1, none⟩ = some (.int .i64 q) := by simpa [Addr.add] using c1
        go_wp2_with fail
        have TX : Hid (Txt w w.heap.size wr.heap.size (.cells #[.int .i64 p, .int .i64 q] 58 (0, 0)) s0 (wr.alloc (.cells #[.int .i64 p, .int .i64 q] 58))) :=
          Lib.hid ⟨hW.out.1.alloc hW.out.1.size _, told_over hN.out ((Below.refl _ _).alloc (Nat.le_refl _) _), heap_alloc_new _ _⟩
        generalize wr.alloc (.cells #[.int .i64 p, .int .i64 q] 58) = W5 at *
        have HNE : Hid (wr.heap.size ≠ w.heap.size) := Lib.hid (by have := hW.out.2; omega)
        have HC : Hid (∀ s W, Txt w w.heap.size wr.heap.size (.cells #[.int .i64 p, .int .i64 q] 58 (0, 0)) s W → W.cell? ⟨wr.heap.size, 0, none⟩ = some (.int .i64 p) ∧ W.cell? ⟨wr.heap.size, 1, none⟩ = some (.int .i64 q)) :=
          Lib.hid fun s W h => ⟨by rw [cell_of_row _ wr.heap.size 0 _ _ (0, 0) h.box]; rfl, by rw [cell_of_row _ wr.heap.size 1 _ _ (0, 0) h.box]; rfl⟩
        have HK0 : Txt w w.heap.size wr.heap.size (.cells #[.int .i64 p, .int .i64 q] 58 (0, 0)) s0 W5.drew := Txt.keep (Below.refl _ _).drew TX.out
        clear c0 c1 hN
        have WC := Lib.hid (fun W (hk : Txt w w.heap.size wr.heap.size (.cells #[.int .i64 p, .int .i64 q] 58 (0, 0)) s0 W) => txt_write w w.heap.size wr.heap.size #[.int .i64 p, .int .i64 q] 58 (0, 0) s0 (f p ++ ⟨#[46]⟩ ++ f q) W hk (by decide) HNE.out HL.out)
        go_region_held3 (fun w' => w'.cell? ⟨wr.heap.size, 0, none⟩ = some (.int .i64 p) ∧ w'.cell? ⟨wr.heap.size, 1, none⟩ = some (.int .i64 q)) (exact HC.out _ _ (by assumption)) (first
          | (go_at_call 54; refine (CI.out _ (by assumption) _ (Txt.bel (by assumption))).mono ?_; rintro e w6 ⟨rfl, hb6⟩; have hk6 := Txt.keep hb6 (by assumption))
          | (go_at_call 46; refine (WC.out _ (by assumption)).mono ?_; rintro e w8 ⟨rfl, hk8⟩))
        have HW := Lib.hid (show Below w.heap.size w w8 ∧ w.heap.size < w8.heap.size from ⟨hk8.bel, by
          have := (Array.getElem?_eq_some_iff.1 hk8.box).1
          have := hW.out.2
          omega⟩)
        have HN9 := Lib.hid hk8.told
        rw [← HX1.out] at HN9
        clear hk8
        go_wp2
        exact ⟨⟨1, by omega, rfl, HN9, HW⟩, by simp [intOf]; omega⟩
      · have hnx := textTo_next xs j hlt
        rw [ex, ← hf.out.is, ← hf.out.is] at hnx
        have HX1 := Lib.hid hnx
        have HL0 : Hid ((textTo xs (j + 1)).size + (⟨#[44]⟩ : ByteArray).size ≤ 140737488355328) := Lib.hid (by
          rw [show (⟨#[44]⟩ : ByteArray).size = 1 from rfl]; omega)
        have HL : Hid ((textTo xs (j + 1) ++ ⟨#[44]⟩).size + (f p ++ ⟨#[46]⟩ ++ f q).size ≤ 140737488355328) := Lib.hid (by
          rw [ByteArray.size_append, ByteArray.size_append, ByteArray.size_append, show (⟨#[46]⟩ : ByteArray).size = 1 from rfl, show (⟨#[44]⟩ : ByteArray).size = 1 from rfl]; omega)
        clear hnx ex hts
        obtain ⟨s0, hs0⟩ : ∃ s0, textTo xs (j + 1) = s0 := ⟨_, rfl⟩
        rw [hs0] at hN HX1 HL HL0
        have i0 : (0 : Int) < (j : Int) + 1 := by omega
        go_wp2_with fail
        have TX : Hid (Txt w w.heap.size wr.heap.size (.cells #[.int .i64 p, .int .i64 q] 58 (0, 0)) s0 (wr.alloc (.cells #[.int .i64 p, .int .i64 q] 58))) :=
          Lib.hid ⟨hW.out.1.alloc hW.out.1.size _, told_over hN.out ((Below.refl _ _).alloc (Nat.le_refl _) _), heap_alloc_new _ _⟩
        generalize wr.alloc (.cells #[.int .i64 p, .int .i64 q] 58) = W5 at *
        have HNE : Hid (wr.heap.size ≠ w.heap.size) := Lib.hid (by have := hW.out.2; omega)
        have HC : Hid (∀ s W, Txt w w.heap.size wr.heap.size (.cells #[.int .i64 p, .int .i64 q] 58 (0, 0)) s W → W.cell? ⟨wr.heap.size, 0, none⟩ = some (.int .i64 p) ∧ W.cell? ⟨wr.heap.size, 1, none⟩ = some (.int .i64 q)) :=
          Lib.hid fun s W h => ⟨by rw [cell_of_row _ wr.heap.size 0 _ _ (0, 0) h.box]; rfl, by rw [cell_of_row _ wr.heap.size 1 _ _ (0, 0) h.box]; rfl⟩
        have HK0 : Txt w w.heap.size wr.heap.size (.cells #[.int .i64 p, .int .i64 q] 58 (0, 0)) s0 W5.drew := Txt.keep (Below.refl _ _).drew TX.out
        clear c0 c1 hN
        refine (txt_write w w.heap.size wr.heap.size #[.int .i64 p, .int .i64 q] 58 (0, 0) s0 ⟨#[44]⟩ W5 TX.out (by decide) HNE.out HL0.out).mono ?_
        rintro e w6 ⟨rfl, hk6⟩
        have hk0 : Txt w w.heap.size wr.heap.size (.cells #[.int .i64 p, .int .i64 q] 58 (0, 0)) (s0 ++ ⟨#[44]⟩) w6.drew := Txt.keep (Below.refl _ _).drew hk6
        clear hk6 HK0
        go_wp2_with fail
        have WC := Lib.hid (fun W (hk : Txt w w.heap.size wr.heap.size (.cells #[.int .i64 p, .int .i64 q] 58 (0, 0)) (s0 ++ ⟨#[44]⟩) W) => txt_write w w.heap.size wr.heap.size #[.int .i64 p, .int .i64 q] 58 (0, 0) (s0 ++ ⟨#[44]⟩) (f p ++ ⟨#[46]⟩ ++ f q) W hk (by decide) HNE.out HL.out)
        go_region_held3 (fun w' => w'.cell? ⟨wr.heap.size, 0, none⟩ = some (.int .i64 p) ∧ w'.cell? ⟨wr.heap.size, 1, none⟩ = some (.int .i64 q)) (exact HC.out _ _ (by assumption)) (first
          | (go_at_call 54; refine (CI.out _ (by assumption) _ (Txt.bel (by assumption))).mono ?_; rintro e w7 ⟨rfl, hb7⟩; have hk7 := Txt.keep hb7 (by assumption))
          | (go_at_call 46; refine (WC.out _ (by assumption)).mono ?_; rintro e w8 ⟨rfl, hk8⟩))
        have HW := Lib.hid (show Below w.heap.size w w8 ∧ w.heap.size < w8.heap.size from ⟨hk8.bel, by
          have := (Array.getElem?_eq_some_iff.1 hk8.box).1
          have := hW.out.2
          omega⟩)
        have HN9 := Lib.hid hk8.told
        rw [← HX1.out] at HN9
        clear hk8
        go_wp2
        exact ⟨⟨j + 1 + 1, by omega, by go_num, HN9, HW⟩, by simp [intOf]; omega⟩
    · obtain rfl : k = xs.length := by omega
      have hN2 : Lib.IsBuilderF 93 5 w.heap.size w.heap.size (Lib.byteCells t.data.toList) wr := by rw [← HX.out]; exact hN.out
      have HN5 := Lib.hid hN2
      clear hN hN2
      go_wp2_with fail
      refine (Tryd.Builder_String_any_k w.heap.size w.heap.size t.data.toList wr HN5.out hW.out.1.size).mono ?_
      rintro e w6 ⟨rfl, _, hb6, _⟩
      go_wp2
      go_ret
      exact ⟨rfl, hW.out.1.trans hb6⟩

set_option maxRecDepth 100000 in
set_option maxHeartbeats 1000000 in
theorem reftext_any (xs : List ID) (t : ByteArray) (h : (⟨(textD xs).toArray⟩ : ByteArray) = t) (hr : InR xs) (hl : xs.length ≤ 1048576) (ao : Option Addr) (ca : Nat) (w : World) (ra : Ids w ao ca xs) :
    Calls Tryd.prog 39 #[.slice ao xs.length ca] w fun e w' => e = .returned (.string t) ∧ Below w.heap.size w w' := by
  have hx : textTo xs xs.length = t := by rw [← h]; unfold textTo; rw [List.take_length]
  have HX := Lib.hid hx
  have HA := Lib.hid ra
  have HR := Lib.hid hr
  obtain ⟨f, hf⟩ : ∃ f, Hid (Digs f) := ⟨fun n => ⟨(Lib.itoa n).toArray⟩, Lib.hid ⟨fun _ => rfl⟩⟩
  have CI : Hid (∀ n, (-9223372036854775808 ≤ n ∧ n ≤ 9223372036854775807) → ∀ W, Calls Tryd.prog 55 #[.int .i64 n] W fun e w' => e = .returned (.string (f n)) ∧ Below W.heap.size W w') :=
    Lib.hid fun n hn W => by rw [hf.out.is]; exact Bl.signed_any n hn.1 hn.2 W
  clear h ra hr hx
  go_enter Tryd.func39, Tryd.ntmps39
  go_wp2_with fail
  go_loopw [3, 4] (fun v i W => ∃ (k : Nat) (s : ByteArray), k ≤ xs.length ∧ i = .int .i64 k ∧ v = .string s ∧ Hid (textTo xs k = s) ∧ s.size ≤ 46137344 ∧ Hid (Below w.heap.size w W)) (fun _ i _ => xs.length - (intOf i).toNat)
  case atStart => exact ⟨0, ⟨#[]⟩, Nat.zero_le _, rfl, rfl, Lib.hid rfl, by show 0 ≤ _; omega, Lib.hid (Below.refl _ _)⟩
  case round =>
    obtain ⟨k, s, hk, rfl, rfl, hN, hsz, hW⟩ := hrel
    by_cases hlt : k < xs.length
    · obtain ⟨y, p, q, ex, rfl, hyb, c0, c1⟩ := (HA.out.kept hW.out).at hlt
      have hpq := in_at HR.out hlt ex
      obtain ⟨hp, hq⟩ := hpq
      have sp := hf.out.size p hp.1 hp.2
      have sq := hf.out.size q hq.1 hq.2
      have x1 : ¬ 9223372036854775807 < s.size + 1 := by omega
      have x2 : ¬ 9223372036854775807 < s.size + 1 + (f p).size := by omega
      have x3 : ¬ 9223372036854775807 < s.size + 1 + (f p).size + 1 := by omega
      have x4 : ¬ 9223372036854775807 < s.size + 1 + (f p).size + 1 + (f q).size := by omega
      have x5 : ¬ 9223372036854775807 < s.size + (f p).size := by omega
      have x6 : ¬ 9223372036854775807 < s.size + (f p).size + 1 := by omega
      have x7 : ¬ 9223372036854775807 < s.size + (f p).size + 1 + (f q).size := by omega
      have hts := textTo_size xs HR.out (k + 1)
      have hk0 : Below wr.heap.size wr wr.drew := (Below.refl _ _).drew
      rcases k with _ | j
      · have hnx := textTo_first xs hlt
        rw [ex, ← hf.out.is, ← hf.out.is] at hnx
        have e0 : s ++ f p ++ ⟨#[46]⟩ ++ f q = f p ++ ⟨#[46]⟩ ++ f q := by
          rw [← hN.out]
          show (⟨#[]⟩ : ByteArray) ++ f p ++ ⟨#[46]⟩ ++ f q = _
          rw [show (⟨#[]⟩ : ByteArray) ++ f p = f p from ByteArray.empty_append]
        rw [← e0] at hnx
        have f0 : wr.cell? y = some (.int .i64 p) := by simpa [Addr.add] using c0
        have f1 : wr.cell? ⟨y.block, y.off + 1, none⟩ = some (.int .i64 q) := by simpa [Addr.add] using c1
        have HX1 := Lib.hid hnx
        have HT := Lib.hid hts
        have HD : Hid (∀ W, Below wr.heap.size wr W → W.cell? y = some (.int .i64 p) ∧ W.cell? ⟨y.block, y.off + 1, none⟩ = some (.int .i64 q)) :=
          Lib.hid fun W h => ⟨(h.cell hyb).trans f0, (h.cell (p := ⟨y.block, y.off + 1, none⟩) hyb).trans f1⟩
        clear hnx ex hts hN e0 f0 f1 c0 c1
        go_wp2_with fail
        go_region_held3 (fun w' => w'.cell? y = some (.int .i64 p) ∧ w'.cell? ⟨y.block, y.off + 1, none⟩ = some (.int .i64 q)) (exact HD.out _ (by assumption)) ((go_at_call 55; refine (CI.out _ (by assumption) _).mono ?_; rintro e w6 ⟨rfl, hb6⟩; have hk6 := keep2 hb6 (by assumption)))
        have HW := Lib.hid (hW.out.trans (hk6.mono hW.out.size))
        go_wp2
        exact ⟨⟨1, _, by omega, rfl, rfl, HX1, by rw [← HX1.out]; exact Nat.le_trans HT.out (by omega), HW⟩, by simp [intOf]; omega⟩
      · have hnx := textTo_next xs j hlt
        rw [ex, hN.out, ← hf.out.is, ← hf.out.is] at hnx
        have e0 : s ++ ⟨#[44]⟩ ++ (f p ++ ⟨#[46]⟩ ++ f q) = s ++ ⟨#[44]⟩ ++ f p ++ ⟨#[46]⟩ ++ f q := by simp only [ByteArray.append_assoc]
        rw [e0] at hnx
        have HX1 := Lib.hid hnx
        have HT := Lib.hid hts
        have i0 : (0 : Int) < (j : Int) + 1 := by omega
        have i5 : (0 : Int) ≤ (j : Int) + 1 := by omega
        have i6 : (j : Int) + 1 < (xs.length : Int) := by omega
        have HD : Hid (∀ W, Below wr.heap.size wr W → W.cell? (y.add ((j + 1) * 2)) = some (.int .i64 p) ∧ W.cell? ⟨(y.add ((j + 1) * 2)).block, (y.add ((j + 1) * 2)).off + 1, none⟩ = some (.int .i64 q)) :=
          Lib.hid fun W h => ⟨(h.cell (by rw [block_of_add]; exact hyb)).trans c0, (h.cell (by show (y.add _).block < _; rw [block_of_add]; exact hyb)).trans c1⟩
        clear hnx ex hts hN e0 c0 c1
        go_wp2_with fail
        go_region_held3 (fun w' => w'.cell? (y.add ((j + 1) * 2)) = some (.int .i64 p) ∧ w'.cell? ⟨(y.add ((j + 1) * 2)).block, (y.add ((j + 1) * 2)).off + 1, none⟩ = some (.int .i64 q)) (exact HD.out _ (by assumption)) ((go_at_call 55; refine (CI.out _ (by assumption) _).mono ?_; rintro e w6 ⟨rfl, hb6⟩; have hk6 := keep2 hb6 (by assumption)))
        have HW := Lib.hid (hW.out.trans (hk6.mono hW.out.size))
        go_wp2
        exact ⟨⟨j + 1 + 1, _, by omega, by go_num, rfl, HX1, by rw [← HX1.out]; have := HT.out; omega, HW⟩, by simp [intOf]; omega⟩
    · obtain rfl : k = xs.length := by omega
      obtain rfl : s = t := by rw [← HX.out]; exact hN.out.symm
      go_wp2
      go_ret
      exact ⟨rfl, hW.out⟩
end Go.Proofs.YtkemljpjfbmjgaaDoor.Dp
