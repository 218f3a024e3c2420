/-
  Bytes in a block of the call's own: what a conversion of a text to bytes lays, what a store does, what the conversion back reads. Conditions: as each theorem says.
-/
import Derived.WalkKit
import Derived.Below
import Derived.WalkSmall
import Derived.Lib.Strings
import Derived.Laws.IdiomStrings
namespace Go.Proofs.YtkemljpjfbmjgaaDoor.Crc
open Go.RowKit

/-- block b begins with the bytes l, and none of them is frozen -/
def Bytes (W : World) (b : Nat) (l : List UInt8) : Prop := ∀ j (hj : j < l.length), W.cell? ⟨b, j, none⟩ = some (.int .u8 (l[j].toNat : Int)) ∧ W.frozen? ⟨b, j, none⟩ = false

theorem conv_bytes {P : Program} (w : World) (src dst e : TypeId) (s : ByteArray) (hs : P.underlying src = some .string) (hd : P.underlying dst = some (.slice e)) (he : P.underlying e = some (.int .u8)) :
    ∃ (cap : Nat) (W1 : World), (convert src dst (.string s)).run P w = .ok (.slice (some ⟨w.heap.size, 0, none⟩) s.size cap) W1 ∧ Below w.heap.size w W1 ∧ W1.heap.size = w.heap.size + 1 ∧ Bytes W1 w.heap.size s.data.toList := by
  refine ⟨_, _, run_bytes_of_string w src dst e s hs hd he, ((Below.refl _ _).drew).alloc (Nat.le_refl _) _, by simp, ?_⟩
  intro j hj
  have hj' : j < s.data.size := by simpa using hj
  refine ⟨?_, ?_⟩
  · have h := World.cell?_alloc_mark w.drew (bytesRow s (grownCap w s.size 0 e)) e ((bytesRow s (grownCap w s.size 0 e)).size, (bytesRow s (grownCap w s.size 0 e)).size + 1) j
    refine h.trans ?_
    rw [bytesRow_at s _ j hj']
    simp
  · have h := World.frozen?_alloc_mark w.drew (bytesRow s (grownCap w s.size 0 e)) e (bytesRow s (grownCap w s.size 0 e)).size ((bytesRow s (grownCap w s.size 0 e)).size + 1) j
    refine h.trans ?_
    have hsz : s.data.size ≤ (bytesRow s (grownCap w s.size 0 e)).size := by simp [bytesRow]
    simp
    omega

theorem Bytes.at {W : World} {b : Nat} {l : List UInt8} (h : Bytes W b l) (i : Nat) (hi : i < l.length) :
    ∃ v : UInt8, l[i]? = some v ∧ W.cell? ⟨b, i, none⟩ = some (.int .u8 (v.toNat : Int)) ∧ W.frozen? ⟨b, i, none⟩ = false :=
  ⟨l[i], List.getElem?_eq_getElem hi, (h i hi).1, (h i hi).2⟩

theorem Bytes.set {W : World} {b : Nat} {l : List UInt8} (h : Bytes W b l) (i : Nat) (v : UInt8) (hi : i < l.length) : Bytes (W.setCell ⟨b, i, none⟩ (.int .u8 (v.toNat : Int))) b (l.set i v) := by
  intro j hj
  have hj' : j < l.length := by simpa using hj
  refine ⟨?_, by rw [World.frozen?_setCell]; exact (h j hj').2⟩
  by_cases e : i = j
  · subst e
    rw [World.cell?_setCell_same _ _ _ (h i hi).1]
    simp
  · rw [World.cell?_setCell_other _ _ _ _ (by simp), (h j hj').1]
    simp [e]

theorem Bytes.back {P : Program} {W : World} {b : Nat} {l : List UInt8} (h : Bytes W b l) (src dst e : TypeId) (cap : Nat) (hs : P.underlying src = some (.slice e)) (he : P.underlying e = some (.int .u8)) (hd : P.underlying dst = some .string) :
    (convert src dst (.slice (some ⟨b, 0, none⟩) l.length cap)).run P W = .ok (.string ⟨l.toArray⟩) W :=
  run_convert_bytes_back W src dst e ⟨b, 0, none⟩ cap l hs he hd (fun j hj => by
    have := (h j hj).1
    by_cases h0 : j = 0
    · subst h0; simpa [Addr.add] using this
    · simpa [Addr.add, h0] using this)

theorem Bytes.keep {W W' : World} {b B : Nat} {l : List UInt8} (h : Bytes W b l) (hb : Below B W W') (hlt : b < B) : Bytes W' b l := fun j hj =>
  ⟨by rw [hb.cell (p := ⟨b, j, none⟩) hlt]; exact (h j hj).1, by rw [hb.frozen (p := ⟨b, j, none⟩) hlt]; exact (h j hj).2⟩

theorem Bytes.drewN {W : World} {b : Nat} {l : List UInt8} (h : Bytes W b l) (k : Nat) : Bytes (W.drewN k) b l :=
  h.keep (B := b + 1) (below_drewN (Below.refl _ _) k) (by omega)

theorem Bytes.back_any {P : Program} {W : World} {b : Nat} {l : List UInt8} (h : Bytes W b l) (src dst e : TypeId) (cap n : Nat) (hn : l.length = n) (hs : P.underlying src = some (.slice e)) (he : P.underlying e = some (.int .u8)) (hd : P.underlying dst = some .string) :
    ∀ k, (convert src dst (.slice (some ⟨b, 0, none⟩) n cap)).run P (W.drewN k) = .ok (.string ⟨l.toArray⟩) (W.drewN k) := fun k => by
  subst hn
  exact (h.drewN k).back src dst e cap hs he hd

theorem extract_take (s : ByteArray) (n : Nat) : s.extract 0 n = ⟨(s.data.toList.take n).toArray⟩ := by
  have h := Lib.extract_data s 0 n
  apply ByteArray.ext
  apply Array.ext'
  rw [h]
  simp

theorem Bytes.drew {W : World} {b : Nat} {l : List UInt8} (h : Bytes W b l) : Bytes W.drew b l :=
  h.keep (B := b + 1) (Below.refl _ _).drew (by omega)

/-- a store into another block -/
theorem Bytes.other {W : World} {b : Nat} {l : List UInt8} (h : Bytes W b l) (a : Addr) (x : Value) (hne : a.block ≠ b) : Bytes (W.setCell a x) b l := fun j hj =>
  ⟨by rw [World.cell?_setCell_other _ _ _ _ (by intro e; subst e; exact hne rfl)]; exact (h j hj).1, by rw [World.frozen?_setCell]; exact (h j hj).2⟩

theorem xor_bytes (v u : UInt8) : bits .xor .u8 (v.toNat : Int) (u.toNat : Int) = ((v ^^^ u).toNat : Int) := by
  have hv : v.toNat < 256 := v.toNat_lt
  have hu : u.toNat < 256 := u.toNat_lt
  rw [u8_xor_nat _ _ hv hu, UInt8.toNat_xor]

theorem take_at (s : ByteArray) (n k : Nat) (l : List UInt8) (hl : s.data.toList.take n = l) (hk : k < n) (hs : k < s.size) : l[k]? = some s[k] := by
  rw [← hl, List.getElem?_take, if_pos hk, List.getElem?_eq_getElem (by simpa using hs)]
  rfl

/-- a bit of a byte, turned -/
def turned (v : UInt8) (n : Nat) : UInt8 := v ^^^ UInt8.ofNat (2 ^ (n % 8))

theorem pow_lt (n : Nat) : 2 ^ (n % 8) < 256 := by
  have h : n % 8 < 8 := Nat.mod_lt _ (by omega)
  calc 2 ^ (n % 8) ≤ 2 ^ 7 := Nat.pow_le_pow_right (by omega) (by omega)
    _ < 256 := by omega

theorem xor_u8 (v : UInt8) (m : Nat) (h : m < 256) : bits .xor .u8 (v.toNat : Int) ((m : Int) % 256) = ((v ^^^ UInt8.ofNat m).toNat : Int) := by
  have hv : v.toNat < 256 := v.toNat_lt
  rw [show (m : Int) % 256 = (m : Int) by omega, u8_xor_nat _ _ hv h, UInt8.toNat_xor, UInt8.toNat_ofNat', Nat.mod_eq_of_lt (by omega)]

theorem xor_ne (v : UInt8) (m : Nat) (h : m < 256) (h0 : 0 < m) : v ^^^ UInt8.ofNat m ≠ v := by
  intro e
  have h1 := congrArg UInt8.toNat e
  rw [UInt8.toNat_xor, UInt8.toNat_ofNat', Nat.mod_eq_of_lt (by omega)] at h1
  have h2 : v.toNat ^^^ (v.toNat ^^^ m) = v.toNat ^^^ v.toNat := by rw [h1]
  rw [← Nat.xor_assoc, Nat.xor_self, Nat.zero_xor] at h2
  omega

theorem xor_shift (v : UInt8) (x j : Nat) : bits .xor .u8 (v.toNat : Int) ((x : Int) / 2 ^ (8 * j) % 256) = ((v ^^^ UInt8.ofNat (x / 2 ^ (8 * j) % 256)).toNat : Int) := by
  have e : ((x : Int) / 2 ^ (8 * j) % 256) = ((x / 2 ^ (8 * j) % 256 : Nat) : Int) % 256 := by
    have e1 : ((2 : Int) ^ (8 * j)) = ((2 ^ (8 * j) : Nat) : Int) := by simp
    rw [e1, ← Int.natCast_ediv]
    omega
  rw [e]
  exact xor_u8 v _ (Nat.mod_lt _ (by omega))

theorem turn_walk (v : UInt8) (n : Nat) : bits .xor .u8 (v.toNat : Int) (2 ^ (n % 8) % 256) = ((turned v n).toNat : Int) := by
  have e1 : ((2 : Int) ^ (n % 8)) = ((2 ^ (n % 8) : Nat) : Int) := by simp
  rw [e1]
  exact xor_u8 v _ (pow_lt n)

theorem turned_ne (v : UInt8) (n : Nat) : turned v n ≠ v :=
  xor_ne v _ (pow_lt n) (Nat.pow_pos (by omega))

end Go.Proofs.YtkemljpjfbmjgaaDoor.Crc
