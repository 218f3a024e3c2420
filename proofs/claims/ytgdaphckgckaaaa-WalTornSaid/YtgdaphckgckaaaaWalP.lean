/-
  Append of package wal, in one contract for a record that may be; a text of one byte and a piece of another. Conditions: as each theorem says.
-/
import Derived.Test.YtgdaphckgckaaaaWalE
namespace Go.Proofs.Ytgdaphckgckaaaa.Wl
open Go.RowKit
open Dk (DiskAt Far)

/-- a byte, and m bytes behind it -/
theorem one_of (c : UInt8) (X : ByteArray) (m : Nat) (hX : X.size = m) (h : m ≤ 8191) : may ((⟨#[c]⟩ : ByteArray) ++ X) ∧ ((⟨#[c]⟩ : ByteArray) ++ X).size = m + 1 ∧ ((⟨#[c]⟩ : ByteArray) ++ X).data.toList = c :: X.data.toList := by
  have h1 : ((⟨#[c]⟩ : ByteArray) ++ X).size = m + 1 := by rw [ByteArray.size_append, hX]; show 1 + m = m + 1; omega
  refine ⟨?_, h1, by rw [Dk.data_append]; rfl⟩
  unfold may
  omega

/-- what an Append of a record that may be leaves -/
theorem put_any {B a b d n : Nat} {v : Value} {rs : List ByteArray} {l : List UInt8} {sy ro : Nat} {h : Bool} {w : World} (D : DiskAt b d l sy ro h w) (L : LogIn B a d v rs n w) (r : ByteArray) (hr : may r) (hn : rs.length ≤ 1099511627776) (hB : B ≤ b) :
    Calls Try.prog 26 #[.pointer (some ⟨a, 0, none⟩), .string r] w fun e w' => ∃ (v' : Value) (c : Nat) (l' : List UInt8) (rs' : List ByteArray), e = .returned (.int .i64 (c : Int)) ∧ DiskAt b d l' sy ro h w' ∧ LogIn B a d v' rs' n w' ∧ FarL B a v w w' ∧ (∀ g, v'.ownBlock = some g → v.ownBlock = some g ∨ w.heap.size ≤ g) ∧
      ((c = 0 ∧ l' = l ++ frl r ∧ rs' = rs ++ [r] ∧ l.length + (r.size + 6) ≤ ro) ∨ (c = 4 ∧ l' = l ∧ rs' = rs ∧ ro < l.length + (r.size + 6))) := by
  by_cases hf : l.length + (r.size + 6) ≤ ro
  · refine (putfits_any D L r hr hf hn hB).mono ?_
    rintro e w' ⟨v', rfl, h1, h2, h3, h4⟩
    exact ⟨v', 0, _, _, rfl, h1, h2, h3, h4, .inl ⟨rfl, rfl, rfl, hf⟩⟩
  · refine (putfull_any D L r hr (by omega) hB).mono ?_
    rintro e w' ⟨rfl, h1, h2, h3⟩
    exact ⟨v, 4, _, _, rfl, h1, h2, h3, fun g hg => .inl hg, .inr ⟨rfl, rfl, rfl, by omega⟩⟩

/-- Bytes, as a text of which the size is known -/
theorem bytes_len {B a : Nat} {l : List UInt8} {sy ro : Nat} {h : Bool} {w : World} (D : DiskAt B a l sy ro h w) :
    Calls Try.prog 30 #[.pointer (some ⟨a, 0, none⟩)] w fun e w' => ∃ y : ByteArray, e = .returned (.string y) ∧ y.data.toList = l ∧ y.size = l.length ∧ DiskAt B a l sy ro h w' ∧ Below w.heap.size w w' := by
  refine (Dk.bytes_str D ⟨l.toArray⟩ rfl).mono ?_
  rintro e w' ⟨rfl, h1, h2⟩
  exact ⟨_, rfl, rfl, (len_data _).symm, h1, h2⟩

/-- what a walk reads at a place of a row of texts -/
theorem row_read {B : Nat} {v : Value} {xs : List ByteArray} {w : World} (h : w.ownsRow B 9 1 v xs.length (strs xs)) (k : Nat) (hk : k < xs.length) :
    ∃ p cap, v = .slice (some ⟨p, 0, none⟩) xs.length cap ∧ xs.length ≤ cap ∧ cap ≤ maxLen ∧ w.cell? ⟨p, k, none⟩ = some (.string xs[k]) := by
  have h0 := h
  rcases h.2 with ⟨_, h0⟩ | ⟨p, cap, cur, rfl, _, _, hc, hm, _⟩
  · omega
  · refine ⟨p, cap, rfl, hc, hm, ?_⟩
    rw [h0.cellAt k (by omega)]
    simp [strs, hk]

/-- two rows, of which the one holds what the other begins with -/
theorem row_two {B C : Nat} {v u : Value} {xs ys : List ByteArray} {w : World} (h : w.ownsRow B 9 1 v xs.length (strs xs)) (h' : w.ownsRow C 9 1 u ys.length (strs ys)) (k : Nat) (hk : k < xs.length) (hp : xs <+: ys) :
    ∃ p cap p' cap' t, v = .slice (some ⟨p, 0, none⟩) xs.length cap ∧ u = .slice (some ⟨p', 0, none⟩) ys.length cap' ∧ xs.length ≤ cap ∧ ys.length ≤ cap' ∧ cap ≤ maxLen ∧ cap' ≤ maxLen ∧ w.cell? ⟨p, k, none⟩ = some (.string t) ∧ w.cell? ⟨p', k, none⟩ = some (.string t) ∧ k < ys.length := by
  obtain ⟨p, cap, h1, h2, h3, h4⟩ := row_read h k hk
  have hl : k < ys.length := Nat.lt_of_lt_of_le hk hp.length_le
  obtain ⟨p', cap', g1, g2, g3, g4⟩ := row_read h' k hl
  have e : ys[k] = xs[k] := by obtain ⟨t, rfl⟩ := hp; exact List.getElem_append_left hk
  rw [e] at g4
  exact ⟨p, cap, p', cap', _, h1, g1, h2, g2, h3, g3, h4, g4, hl⟩

/-- a row of texts that is no part of a log is kept by what is done to the log -/
theorem row_farL {B C D a d n m : Nat} {v u : Value} {rs : List ByteArray} {xs : List Value} {w w1 : World} (h : w.ownsRow C 9 1 u m xs) (L : LogIn B a d v rs n w) (hF : FarL D a v w w1) (hne : ∀ k, v.ownBlock = some k → u.ownBlock ≠ some k) : w1.ownsRow C 9 1 u m xs :=
  row_kept h fun k cs hk hc => hF.kept k cs 9 _ hc (by decide) (by decide) (by decide) (fun e => Dk.own_ne h L.head (by decide) (by rw [hk, e])) (fun e => hne k e.symm hk)

/-- a log is kept while another row of texts grows -/
theorem LogIn.kept {B C a d n m : Nat} {v u : Value} {rs : List ByteArray} {xs : List Value} {w w1 : World} (L : LogIn B a d v rs n w) (h : w.ownsRow C 9 1 u m xs) (hg : w.grownBy w1 u.ownBlock) (hne : ∀ k, v.ownBlock = some k → u.ownBlock ≠ some k) : LogIn B a d v rs n w1 :=
  ⟨L.base, Nat.le_trans L.heap hg.size, (hg.block a L.head.lt (fun e => Dk.own_ne h L.head (by decide) e.symm)).trans L.head, row_kept L.row fun k cs hk hc => (hg.block k (Dk.heap_lt hc) (fun e => hne k hk e.symm)).trans hc⟩

/-- .. and a disk -/
theorem disk_row {B C a m : Nat} {l : List UInt8} {sy ro : Nat} {h : Bool} {u : Value} {xs : List Value} {w w1 : World} (D : DiskAt B a l sy ro h w) (hr : w.ownsRow C 9 1 u m xs) (hg : w.grownBy w1 u.ownBlock) : DiskAt B a l sy ro h w1 :=
  D.kept hg fun k hk => by
    obtain ⟨_, cs, hc⟩ := Dk.own_block hr hk
    exact ⟨cs, 9, (0, 0), hc, by decide, by decide, by decide⟩

/-- rows lie apart -/
def Apart (v u : Value) : Prop := ∀ k, v.ownBlock = some k → u.ownBlock ≠ some k
/-- .. still, where the one is as it was, or new -/
theorem Apart.left {v v' u : Value} {C m : Nat} {xs : List Value} {w : World} (h : Apart v u) (hu : w.ownsRow C 9 1 u m xs) (hv : ∀ g, v'.ownBlock = some g → v.ownBlock = some g ∨ w.heap.size ≤ g) : Apart v' u := fun k hk e => by
  rcases hv k hk with h1 | h1
  · exact h k h1 e
  · have := (hu.lt k e).2; omega
theorem Apart.right {v u u' : Value} {C m : Nat} {xs : List Value} {w : World} (h : Apart v u) (hv : w.ownsRow C 9 1 v m xs) (hu : ∀ g, u'.ownBlock = some g → u.ownBlock = some g ∨ w.heap.size ≤ g) : Apart v u' := fun k hk e => by
  rcases hu k e with h1 | h1
  · exact h k hk h1
  · have := (hv.lt k hk).2; omega
end Go.Proofs.Ytgdaphckgckaaaa.Wl
