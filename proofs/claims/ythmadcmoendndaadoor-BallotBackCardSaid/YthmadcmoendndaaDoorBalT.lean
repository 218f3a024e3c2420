/-
  Contracts of package ballot and of the document's own answer: as digits. Condition: the library's table of powers of ten lies as it was laid.
-/
import Derived.Test.YthmadcmoendndaaDoorBalD
import Derived.Test.YthmadcmoendndaaDoorBalP
import Derived.Lib.ItoaLen
namespace Go.Proofs.YthmadcmoendndaaDoor.Bl
open Go.RowKit
open Pk (bcell scope_ahead)

theorem digits_size (u : Nat) (h : u < 18446744073709551616) : (Lib.decDigits u).length ≤ 20 := by
  rw [Lib.decDigits_length]
  by_cases h0 : u = 0
  · subst h0; decide +kernel
  · have := Lib.numDigits_eq u (by omega) h; split at this <;> omega

theorem text_parts (r v : Int) : textB r v = ((⟨(Lib.decDigits r.toNat).toArray⟩ : ByteArray) ++ ⟨#[46]⟩) ++ ⟨(Lib.itoa v).toArray⟩ := by
  unfold textB
  apply ByteArray.ext
  rw [ByteArray.data_append, ByteArray.data_append]
  simp

theorem signed_any (n : Int) (h0 : -9223372036854775808 ≤ n) (h1 : n ≤ 9223372036854775807) (w : World) :
    Calls Tryd.prog 32 #[.int .i64 n] w fun e w' => e = .returned (.string ⟨(Lib.itoa n).toArray⟩) ∧ Below w.heap.size w w' := by
  have e : ∀ m : Int, IntKind.u64.wrap m = m % 18446744073709551616 := fun m => by simp [IntKind.wrap, IntKind.bits, IntKind.signed]
  by_cases hn : n < 0
  · have e1 : IntKind.u64.wrap (-IntKind.u64.wrap n) = ((n.natAbs : Nat) : Int) := by rw [e, e]; omega
    have hl := digits_size n.natAbs (by omega)
    have hi : Lib.itoa n = 45 :: Lib.decDigits n.natAbs := by unfold Lib.itoa; rw [if_pos hn]
    have hz : (⟨(Lib.decDigits n.natAbs).toArray⟩ : ByteArray).size ≤ 20 := by
      show (Lib.decDigits n.natAbs).toArray.size ≤ 20
      simpa using hl
    have hz1 : (⟨#[45]⟩ : ByteArray).size = 1 := rfl
    have HI := Lib.hid hi
    have HC := Lib.hid (cons_cat 45 (Lib.decDigits n.natAbs))
    have C := fun W => digits_any n.natAbs (by omega) W
    have HN := Lib.hid C
    clear hl hi C e
    generalize n.natAbs = k at *
    generalize (⟨(Lib.decDigits k).toArray⟩ : ByteArray) = S at *
    go_enter Tryd.func32, Tryd.ntmps32
    go_wp2_with fail
    refine (HN.out _).mono ?_
    rintro e w' ⟨rfl, hb⟩
    go_wp2
    go_ret
    exact ⟨ret_text (by rw [HI.out, ← HC.out]), hb⟩
  · have e1 : IntKind.u64.wrap n = ((n.toNat : Nat) : Int) := by rw [e]; omega
    have hi : Lib.itoa n = Lib.decDigits n.toNat := by unfold Lib.itoa; rw [if_neg hn]
    have HI := Lib.hid hi
    have C := fun W => digits_any n.toNat (by omega) W
    have HN := Lib.hid C
    clear hi C e
    generalize n.toNat = k at *
    go_enter Tryd.func32, Tryd.ntmps32
    go_wp2_with fail
    refine (HN.out _).mono ?_
    rintro e w' ⟨rfl, hb⟩
    go_wp2
    go_ret
    exact ⟨ret_text (by rw [HI.out]), hb⟩

/-- .. and the table lies -/
def OneT (w0 : World) (B g : Nat) (u v : Value) (w : World) : Prop := One w0 B g u v w ∧ Tab w
section
variable {w0 w w' : World} {B g : Nat} {u v : Value}
theorem OneT.keep (hb : Below w.heap.size w w') (h : OneT w0 B g u v w) : OneT w0 B g u v w' := ⟨One.keep hb h.1, h.2.over hb⟩
theorem OneT.drew (h : OneT w0 B g u v w) : OneT w0 B g u v w.drew := ⟨h.1.drew, h.2⟩
end

theorem text_any (r v : Int) (s : ByteArray) (h : textB r v = s) (h0 : 0 ≤ r) (hr : r ≤ 4294967295) (v0 : -9223372036854775808 ≤ v) (v1 : v ≤ 9223372036854775807) (w : World) (ht : Tab w) :
    Calls Tryd.prog 22 #[.agg #[.int .u32 r, .int .i64 v]] w fun e w' => e = .returned (.string s) ∧ Below w.heap.size w w' := by
  have e : ∀ m : Int, IntKind.u64.wrap m = m % 18446744073709551616 := fun m => by simp [IntKind.wrap, IntKind.bits, IntKind.signed]
  have w1 : IntKind.u64.wrap r = ((r.toNat : Nat) : Int) := by rw [e]; omega
  have l1 : r.toNat < 18446744073709551616 := by omega
  rw [text_parts] at h
  have hl1 := digits_size r.toNat l1
  have hl2 := Lib.itoa_length_le v v0 v1
  have e1 : (⟨(Lib.decDigits r.toNat).toArray⟩ : ByteArray).size = (Lib.decDigits r.toNat).length := by show (Lib.decDigits r.toNat).toArray.size = _; simp
  have e3 : (⟨(Lib.itoa v).toArray⟩ : ByteArray).size = (Lib.itoa v).length := by show (Lib.itoa v).toArray.size = _; simp
  have c1 := fun W t => uint_any r.toNat l1 W t
  have c2 := fun W t => itoa_any v v0 v1 W t
  generalize (⟨(Lib.decDigits r.toNat).toArray⟩ : ByteArray) = S1 at *
  generalize (⟨(Lib.itoa v).toArray⟩ : ByteArray) = S2 at *
  have k1 : S1.size ≤ 20 := by omega
  have k2 : S2.size ≤ 21 := by omega
  obtain ⟨S3, hS3⟩ : ∃ S3, S1 ++ ⟨#[46]⟩ = S3 := ⟨_, rfl⟩
  have k3 : S3.size = S1.size + 1 := by rw [← hS3, Pk.cat_size]; rfl
  have z1 : ¬ 9223372036854775807 < S1.size + 1 := by omega
  have z2 : ¬ 9223372036854775807 < S3.size + S2.size := by omega
  rw [hS3] at h
  have HS := Lib.hid h
  have C1 := Lib.hid c1
  have C2 := Lib.hid c2
  clear h e h0 hr hl1 hl2 e1 e3 c1 c2 k1 k2 k3
  generalize r.toNat = n1 at *
  go_enter Tryd.func22, Tryd.ntmps22
  go_wp2
  have hp : OneT w w.heap.size w.heap.size (.int .u32 r) (.int .i64 v) ((w.alloc (.cells #[.int .u32 r, .int .i64 v] 24)).drew) := ⟨(One.new w _ _ _).drew, ht.over (below_1 _ _).drew⟩
  generalize w.alloc (.cells #[.int .u32 r, .int .i64 v] 24) = W at *
  go_region_held3 (fun w' => w'.cell? ⟨w.heap.size, 0, none⟩ = some (.int .u32 r) ∧ w'.cell? ⟨w.heap.size, 1, none⟩ = some (.int .i64 v)) (exact One.cells (And.left (b := Tab _) (by assumption))) (first | (go_at_call 29; refine (C1.out _ (And.right (a := One w w.heap.size w.heap.size (.int .u32 r) (.int .i64 v) _) (by assumption))).mono ?_; rintro e w3 ⟨rfl, hb3⟩; have hp3 := OneT.keep hb3 (by assumption)) | (go_at_call 30; refine (C2.out _ (And.right (a := One w w.heap.size w.heap.size (.int .u32 r) (.int .i64 v) _) (by assumption))).mono ?_; rintro e w4 ⟨rfl, hb4⟩; have hp4 := OneT.keep hb4 (by assumption)))
  go_wp2
  go_ret
  exact ⟨ret_text HS.out, hp4.1.2.1⟩

theorem reftext_any (r v : Int) (s : ByteArray) (h : textB r v = s) (h0 : 0 ≤ r) (hr : r ≤ 4294967295) (v0 : -9223372036854775808 ≤ v) (v1 : v ≤ 9223372036854775807) (w : World) :
    Calls Tryd.prog 23 #[.agg #[.int .u32 r, .int .i64 v]] w fun e w' => e = .returned (.string s) ∧ Below w.heap.size w w' := by
  have e : ∀ m : Int, IntKind.u64.wrap m = m % 18446744073709551616 := fun m => by simp [IntKind.wrap, IntKind.bits, IntKind.signed]
  have w1 : IntKind.u64.wrap r = ((r.toNat : Nat) : Int) := by rw [e]; omega
  have l1 : r.toNat < 18446744073709551616 := by omega
  rw [text_parts] at h
  have hl1 := digits_size r.toNat l1
  have hl2 := Lib.itoa_length_le v v0 v1
  have e1 : (⟨(Lib.decDigits r.toNat).toArray⟩ : ByteArray).size = (Lib.decDigits r.toNat).length := by show (Lib.decDigits r.toNat).toArray.size = _; simp
  have e3 : (⟨(Lib.itoa v).toArray⟩ : ByteArray).size = (Lib.itoa v).length := by show (Lib.itoa v).toArray.size = _; simp
  have c1 := fun W => digits_any r.toNat l1 W
  have c2 := fun W => signed_any v v0 v1 W
  generalize (⟨(Lib.decDigits r.toNat).toArray⟩ : ByteArray) = S1 at *
  generalize (⟨(Lib.itoa v).toArray⟩ : ByteArray) = S2 at *
  have k1 : S1.size ≤ 20 := by omega
  have k2 : S2.size ≤ 21 := by omega
  obtain ⟨S3, hS3⟩ : ∃ S3, S1 ++ ⟨#[46]⟩ = S3 := ⟨_, rfl⟩
  have k3 : S3.size = S1.size + 1 := by rw [← hS3, Pk.cat_size]; rfl
  have z1 : ¬ 9223372036854775807 < S1.size + 1 := by omega
  have z2 : ¬ 9223372036854775807 < S3.size + S2.size := by omega
  rw [hS3] at h
  have HS := Lib.hid h
  have C1 := Lib.hid c1
  have C2 := Lib.hid c2
  clear h e h0 hr hl1 hl2 e1 e3 c1 c2 k1 k2 k3
  generalize r.toNat = n1 at *
  go_enter Tryd.func23, Tryd.ntmps23
  go_wp2
  have hp := (One.new w (.int .u32 r) (.int .i64 v) 30).drew
  generalize w.alloc (.cells #[.int .u32 r, .int .i64 v] 30) = W at *
  go_region_held3 (fun w' => w'.cell? ⟨w.heap.size, 0, none⟩ = some (.int .u32 r) ∧ w'.cell? ⟨w.heap.size, 1, none⟩ = some (.int .i64 v)) (exact One.cells (by assumption)) (first | (go_at_call 31; refine (C1.out _).mono ?_; rintro e w3 ⟨rfl, hb3⟩; have hp3 := One.keep hb3 (by assumption)) | (go_at_call 32; refine (C2.out _).mono ?_; rintro e w4 ⟨rfl, hb4⟩; have hp4 := One.keep hb4 (by assumption)))
  go_wp2
  go_ret
  exact ⟨ret_text HS.out, hp4.2.1⟩

end Go.Proofs.YthmadcmoendndaaDoor.Bl
