/-
  Contracts of package cmd and of the document's own answer: in words and digits. Condition, of the program's: the library's table of powers of ten lies as it was laid.
-/
import Derived.Test.YtolgboedinbpeaaDoorCmdG
import Derived.Test.YtolgboedinbpeaaDoorTab
namespace Go.Proofs.YtolgboedinbpeaaDoor.Cm
open Go.RowKit
set_option maxRecDepth 100000
open Pk (bcell scope_ahead numB number textB)
open Bl (ret_bool ret_text Tab)
open Rw (below_1 below_2 below_then)

theorem tab_rows {w W : World} {L : List (Nat × List Value)} (ht : Tab w) (h : Rw.Rows w w.heap.size L W) : Tab W := ht.over h.1
theorem word_size (o : Int) : (wordC o).size ≤ 3 := by
  unfold wordC
  split
  · decide
  split
  · decide
  split
  · decide
  · decide

/-- what Text's texts are made of, one behind the other -/
structure Parts (o c s : Int) (k wd s1 s2 b1 b2 b3 b4 b5 b6 : ByteArray) : Prop where
  word : wordC o = wd
  b6_is : leadC o c s k = b6
  b6_size : b6.size ≤ 140737488351332
  e1 : wd ++ ⟨#[32]⟩ = b1
  e2 : b1 ++ s1 = b2
  e3 : b2 ++ ⟨#[46]⟩ = b3
  e4 : b3 ++ s2 = b4
  e5 : b4 ++ ⟨#[32]⟩ = b5
  e6 : b5 ++ k = b6
  z1 : ¬ 9223372036854775807 < wd.size + 1
  z2 : ¬ 9223372036854775807 < b1.size + s1.size
  z3 : ¬ 9223372036854775807 < b2.size + 1
  z4 : ¬ 9223372036854775807 < b3.size + s2.size
  z5 : ¬ 9223372036854775807 < b4.size + 1
  z6 : ¬ 9223372036854775807 < b5.size + k.size

theorem parts (o c s : Int) (k s1 s2 : ByteArray) (h0 : 0 ≤ s) (hr : s ≤ 4294967295) (v0 : -9223372036854775808 ≤ c) (v1 : c ≤ 9223372036854775807) (hk : k.size ≤ 140737488351232)
    (hs1 : (⟨(Lib.itoa c).toArray⟩ : ByteArray) = s1) (hs2 : (⟨(Lib.decDigits s.toNat).toArray⟩ : ByteArray) = s2) : ∃ wd b1 b2 b3 b4 b5 b6, Parts o c s k wd s1 s2 b1 b2 b3 b4 b5 b6 := by
  have hw := word_size o
  have hl2 := Bl.digits_size s.toNat (by omega)
  have hl1 := Lib.itoa_length_le c v0 v1
  have k2 : s2.size ≤ 20 := by rw [← hs2]; show (Lib.decDigits s.toNat).toArray.size ≤ 20; simpa using hl2
  have k1 : s1.size ≤ 21 := by rw [← hs1]; show (Lib.itoa c).toArray.size ≤ 21; simp; omega
  have q : (⟨#[32]⟩ : ByteArray).size = 1 := rfl
  have q' : (⟨#[46]⟩ : ByteArray).size = 1 := rfl
  refine ⟨wordC o, _, _, _, _, _, _, rfl, ?_, ?_, rfl, rfl, rfl, rfl, rfl, rfl, ?_, ?_, ?_, ?_, ?_, ?_⟩
  · unfold leadC; rw [hs1, hs2]
  all_goals
    (try simp only [Pk.cat_size, q, q'])
    omega

set_option maxHeartbeats 4000000 in
theorem text_any (o c s : Int) (k v x : ByteArray) (h : textC o c s k v = x) (h0 : 0 ≤ s) (hr : s ≤ 4294967295) (v0 : -9223372036854775808 ≤ c) (v1 : c ≤ 9223372036854775807) (hk : k.size ≤ 140737488351232) (hv : v.size ≤ 140737488351232) (w : World) (ht : Tab w) :
    Calls Tryd.prog 18 #[.agg #[.int .i64 o, .int .i64 c, .int .u32 s, .string k, .string v]] w fun e w' => e = .returned (.string x) ∧ Below w.heap.size w w' := by
  subst h
  by_cases ho : o = 0
  · subst ho
    go_enter Tryd.func18, Tryd.ntmps18
    go_wp2
    go_ret
    exact ⟨rfl, below_1 _ _⟩
  have e : ∀ m : Int, IntKind.u64.wrap m = m % 18446744073709551616 := fun m => by simp [IntKind.wrap, IntKind.bits, IntKind.signed]
  have w1 : IntKind.u64.wrap s = ((s.toNat : Nat) : Int) := by rw [e]; omega
  have l1 : s.toNat < 18446744073709551616 := by omega
  obtain ⟨s1, hs1⟩ : ∃ t, (⟨(Lib.itoa c).toArray⟩ : ByteArray) = t := ⟨_, rfl⟩
  obtain ⟨s2, hs2⟩ : ∃ t, (⟨(Lib.decDigits s.toNat).toArray⟩ : ByteArray) = t := ⟨_, rfl⟩
  obtain ⟨wd, b1, b2, b3, b4, b5, b6, P⟩ := parts o c s k s1 s2 h0 hr v0 v1 hk hs1 hs2
  obtain ⟨pw, p6, pz, e1, e2, e3, e4, e5, e6, z1, z2, z3, z4, z5, z6⟩ := P
  have c1 := fun W t => Bl.uint_any s.toNat l1 W t
  have c2 := fun W t => Bl.itoa_any c v0 v1 W t
  rw [hs2] at c1
  rw [hs1] at c2
  generalize s.toNat = n1 at *
  have C1 := Lib.hid c1
  have C2 := Lib.hid c2
  have C0 := Lib.hid pw
  have P6 := Lib.hid p6
  have x1 : ¬ 9223372036854775807 < 1 + v.size := by omega
  have x2 : ¬ 9223372036854775807 < b6.size + (1 + v.size) := by omega
  clear e c1 c2 hs1 hs2 h0 hr l1 pw p6 pz hk hv
  by_cases h1 : o = 1
  · subst h1
    go_enter Tryd.func18, Tryd.ntmps18
    go_wp2
    have hp : Rw.Rows w w.heap.size [(w.heap.size, [.int .i64 1, .int .i64 c, .int .u32 s, .string k, .string v])] (w.alloc (.cells #[.int .i64 1, .int .i64 c, .int .u32 s, .string k, .string v] 24)).drew := ⟨(below_1 _ _).drew, by simp, by simp only [List.forall_mem_cons, List.not_mem_nil, false_imp_iff, implies_true, and_true]; exact (Rw.Row.newAt _ _ _ _ rfl).drew⟩
    have HC := Lib.hid (show ∀ W, Rw.Rows w w.heap.size [(w.heap.size, [.int .i64 1, .int .i64 c, .int .u32 s, .string k, .string v])] W → (W.cell? ⟨w.heap.size, 0, none⟩ = some (.int .i64 1) ∧ W.cell? ⟨w.heap.size, 1, none⟩ = some (.int .i64 c) ∧ W.cell? ⟨w.heap.size, 2, none⟩ = some (.int .u32 s) ∧ W.cell? ⟨w.heap.size, 3, none⟩ = some (.string k)) from fun W h => ⟨((h.2.2 _ (.head _)).2 0 _ rfl).1, ((h.2.2 _ (.head _)).2 1 _ rfl).1, ((h.2.2 _ (.head _)).2 2 _ rfl).1, ((h.2.2 _ (.head _)).2 3 _ rfl).1⟩)
    generalize (w.alloc (.cells #[.int .i64 1, .int .i64 c, .int .u32 s, .string k, .string v] 24)) = W at *
    go_region_held3 (fun W => W.cell? ⟨w.heap.size, 0, none⟩ = some (.int .i64 1) ∧ W.cell? ⟨w.heap.size, 1, none⟩ = some (.int .i64 c) ∧ W.cell? ⟨w.heap.size, 2, none⟩ = some (.int .u32 s) ∧ W.cell? ⟨w.heap.size, 3, none⟩ = some (.string k)) (exact HC.out _ (by assumption)) (first | (go_at_call 28; refine (opname_any 1 _ C0.out _).mono ?_; rintro e w3 ⟨rfl, rfl⟩) | (go_at_call 29; refine (C2.out _ (tab_rows ht (by assumption))).mono ?_; rintro e w4 ⟨rfl, hb4⟩; have hp4 := Rw.Rows.keep hb4 (by assumption)) | (go_at_call 30; refine (C1.out _ (tab_rows ht (by assumption))).mono ?_; rintro e w5 ⟨rfl, hb5⟩; have hp5 := Rw.Rows.keep hb5 (by assumption)))
    have ⟨Q0, _⟩ := (hp5.2.2 _ (.head _)).2 0 _ rfl
    have ⟨Q4, _⟩ := (hp5.2.2 _ (.head _)).2 4 _ rfl
    clear HC
    go_wp2
    go_ret
    exact ⟨ret_text (by unfold textC; rw [if_neg (by decide), if_pos rfl, P6.out]), hp5.1⟩
  · go_enter Tryd.func18, Tryd.ntmps18
    go_wp2
    have hp : Rw.Rows w w.heap.size [(w.heap.size, [.int .i64 o, .int .i64 c, .int .u32 s, .string k, .string v])] (w.alloc (.cells #[.int .i64 o, .int .i64 c, .int .u32 s, .string k, .string v] 24)).drew := ⟨(below_1 _ _).drew, by simp, by simp only [List.forall_mem_cons, List.not_mem_nil, false_imp_iff, implies_true, and_true]; exact (Rw.Row.newAt _ _ _ _ rfl).drew⟩
    have HC := Lib.hid (show ∀ W, Rw.Rows w w.heap.size [(w.heap.size, [.int .i64 o, .int .i64 c, .int .u32 s, .string k, .string v])] W → (W.cell? ⟨w.heap.size, 0, none⟩ = some (.int .i64 o) ∧ W.cell? ⟨w.heap.size, 1, none⟩ = some (.int .i64 c) ∧ W.cell? ⟨w.heap.size, 2, none⟩ = some (.int .u32 s) ∧ W.cell? ⟨w.heap.size, 3, none⟩ = some (.string k)) from fun W h => ⟨((h.2.2 _ (.head _)).2 0 _ rfl).1, ((h.2.2 _ (.head _)).2 1 _ rfl).1, ((h.2.2 _ (.head _)).2 2 _ rfl).1, ((h.2.2 _ (.head _)).2 3 _ rfl).1⟩)
    generalize (w.alloc (.cells #[.int .i64 o, .int .i64 c, .int .u32 s, .string k, .string v] 24)) = W at *
    go_region_held3 (fun W => W.cell? ⟨w.heap.size, 0, none⟩ = some (.int .i64 o) ∧ W.cell? ⟨w.heap.size, 1, none⟩ = some (.int .i64 c) ∧ W.cell? ⟨w.heap.size, 2, none⟩ = some (.int .u32 s) ∧ W.cell? ⟨w.heap.size, 3, none⟩ = some (.string k)) (exact HC.out _ (by assumption)) (first | (go_at_call 28; refine (opname_any o _ C0.out _).mono ?_; rintro e w3 ⟨rfl, rfl⟩) | (go_at_call 29; refine (C2.out _ (tab_rows ht (by assumption))).mono ?_; rintro e w4 ⟨rfl, hb4⟩; have hp4 := Rw.Rows.keep hb4 (by assumption)) | (go_at_call 30; refine (C1.out _ (tab_rows ht (by assumption))).mono ?_; rintro e w5 ⟨rfl, hb5⟩; have hp5 := Rw.Rows.keep hb5 (by assumption)))
    have ⟨Q0, _⟩ := (hp5.2.2 _ (.head _)).2 0 _ rfl
    have ⟨Q4, _⟩ := (hp5.2.2 _ (.head _)).2 4 _ rfl
    clear HC
    go_wp2
    go_ret
    exact ⟨ret_text (by unfold textC; rw [if_neg ho, if_neg h1, P6.out]), hp5.1⟩

set_option maxHeartbeats 4000000 in
theorem reftext_any (o c s : Int) (k v x : ByteArray) (h : textC o c s k v = x) (h0 : 0 ≤ s) (hr : s ≤ 4294967295) (v0 : -9223372036854775808 ≤ c) (v1 : c ≤ 9223372036854775807) (hk : k.size ≤ 140737488351232) (hv : v.size ≤ 140737488351232) (w : World) :
    Calls Tryd.prog 19 #[.agg #[.int .i64 o, .int .i64 c, .int .u32 s, .string k, .string v]] w fun e w' => e = .returned (.string x) ∧ Below w.heap.size w w' := by
  subst h
  by_cases ho : o = 0
  · subst ho
    go_enter Tryd.func19, Tryd.ntmps19
    go_wp2
    go_ret
    exact ⟨rfl, below_1 _ _⟩
  have e : ∀ m : Int, IntKind.u64.wrap m = m % 18446744073709551616 := fun m => by simp [IntKind.wrap, IntKind.bits, IntKind.signed]
  have w1 : IntKind.u64.wrap s = ((s.toNat : Nat) : Int) := by rw [e]; omega
  have l1 : s.toNat < 18446744073709551616 := by omega
  obtain ⟨s1, hs1⟩ : ∃ t, (⟨(Lib.itoa c).toArray⟩ : ByteArray) = t := ⟨_, rfl⟩
  obtain ⟨s2, hs2⟩ : ∃ t, (⟨(Lib.decDigits s.toNat).toArray⟩ : ByteArray) = t := ⟨_, rfl⟩
  obtain ⟨wd, b1, b2, b3, b4, b5, b6, P⟩ := parts o c s k s1 s2 h0 hr v0 v1 hk hs1 hs2
  obtain ⟨pw, p6, pz, e1, e2, e3, e4, e5, e6, z1, z2, z3, z4, z5, z6⟩ := P
  have c1 := fun W => Bl.digits_any s.toNat l1 W
  have c2 := fun W => Bl.signed_any c v0 v1 W
  rw [hs2] at c1
  rw [hs1] at c2
  generalize s.toNat = n1 at *
  have C1 := Lib.hid c1
  have C2 := Lib.hid c2
  have C0 := Lib.hid pw
  have P6 := Lib.hid p6
  have x1 : ¬ 9223372036854775807 < b6.size + 1 := by omega
  have x2 : ¬ 9223372036854775807 < b6.size + 1 + v.size := by omega
  clear e c1 c2 hs1 hs2 h0 hr l1 pw p6 pz hk hv
  by_cases h1 : o = 1
  · subst h1
    obtain rfl : wd = ⟨#[112, 117, 116]⟩ := C0.out.symm
    go_enter Tryd.func19, Tryd.ntmps19
    go_wp2
    have hp : Rw.Rows w w.heap.size [(w.heap.size, [.int .i64 1, .int .i64 c, .int .u32 s, .string k, .string v])] ((w.alloc (.cells #[.int .i64 1, .int .i64 c, .int .u32 s, .string k, .string v] 32)).alloc (.cells #[.string ⟨#[]⟩, .string ⟨#[112, 117, 116]⟩, .string ⟨#[103, 101, 116]⟩, .string ⟨#[100, 101, 108]⟩] 9)).drew := ⟨(Rw.below_2 _ _ _).drew, by simp; omega, by simp only [List.forall_mem_cons, List.not_mem_nil, false_imp_iff, implies_true, and_true]; exact ((Rw.Row.newAt _ _ _ _ rfl).alloc _).drew⟩
    have HC := Lib.hid (show ∀ W, Rw.Rows w w.heap.size [(w.heap.size, [.int .i64 1, .int .i64 c, .int .u32 s, .string k, .string v])] W → (W.cell? ⟨w.heap.size, 0, none⟩ = some (.int .i64 1) ∧ W.cell? ⟨w.heap.size, 1, none⟩ = some (.int .i64 c) ∧ W.cell? ⟨w.heap.size, 2, none⟩ = some (.int .u32 s) ∧ W.cell? ⟨w.heap.size, 3, none⟩ = some (.string k)) from fun W h => ⟨((h.2.2 _ (.head _)).2 0 _ rfl).1, ((h.2.2 _ (.head _)).2 1 _ rfl).1, ((h.2.2 _ (.head _)).2 2 _ rfl).1, ((h.2.2 _ (.head _)).2 3 _ rfl).1⟩)
    generalize ((w.alloc (.cells #[.int .i64 1, .int .i64 c, .int .u32 s, .string k, .string v] 32)).alloc (.cells #[.string ⟨#[]⟩, .string ⟨#[112, 117, 116]⟩, .string ⟨#[103, 101, 116]⟩, .string ⟨#[100, 101, 108]⟩] 9)) = W at *
    go_region_held3 (fun W => W.cell? ⟨w.heap.size, 0, none⟩ = some (.int .i64 1) ∧ W.cell? ⟨w.heap.size, 1, none⟩ = some (.int .i64 c) ∧ W.cell? ⟨w.heap.size, 2, none⟩ = some (.int .u32 s) ∧ W.cell? ⟨w.heap.size, 3, none⟩ = some (.string k)) (exact HC.out _ (by assumption)) (first | (go_at_call 31; refine (C2.out _).mono ?_; rintro e w4 ⟨rfl, hb4⟩; have hp4 := Rw.Rows.keep hb4 (by assumption)) | (go_at_call 32; refine (C1.out _).mono ?_; rintro e w5 ⟨rfl, hb5⟩; have hp5 := Rw.Rows.keep hb5 (by assumption)))
    have ⟨Q0, _⟩ := (hp5.2.2 _ (.head _)).2 0 _ rfl
    have ⟨Q4, _⟩ := (hp5.2.2 _ (.head _)).2 4 _ rfl
    clear HC
    go_wp2
    go_ret
    exact ⟨ret_text (by unfold textC; rw [if_neg (by decide), if_pos rfl, P6.out]; exact ByteArray.append_assoc), hp5.1⟩
  by_cases h2 : o = 2
  · subst h2
    obtain rfl : wd = ⟨#[103, 101, 116]⟩ := C0.out.symm
    go_enter Tryd.func19, Tryd.ntmps19
    go_wp2
    have hp : Rw.Rows w w.heap.size [(w.heap.size, [.int .i64 2, .int .i64 c, .int .u32 s, .string k, .string v])] ((w.alloc (.cells #[.int .i64 2, .int .i64 c, .int .u32 s, .string k, .string v] 32)).alloc (.cells #[.string ⟨#[]⟩, .string ⟨#[112, 117, 116]⟩, .string ⟨#[103, 101, 116]⟩, .string ⟨#[100, 101, 108]⟩] 9)).drew := ⟨(Rw.below_2 _ _ _).drew, by simp; omega, by simp only [List.forall_mem_cons, List.not_mem_nil, false_imp_iff, implies_true, and_true]; exact ((Rw.Row.newAt _ _ _ _ rfl).alloc _).drew⟩
    have HC := Lib.hid (show ∀ W, Rw.Rows w w.heap.size [(w.heap.size, [.int .i64 2, .int .i64 c, .int .u32 s, .string k, .string v])] W → (W.cell? ⟨w.heap.size, 0, none⟩ = some (.int .i64 2) ∧ W.cell? ⟨w.heap.size, 1, none⟩ = some (.int .i64 c) ∧ W.cell? ⟨w.heap.size, 2, none⟩ = some (.int .u32 s) ∧ W.cell? ⟨w.heap.size, 3, none⟩ = some (.string k)) from fun W h => ⟨((h.2.2 _ (.head _)).2 0 _ rfl).1, ((h.2.2 _ (.head _)).2 1 _ rfl).1, ((h.2.2 _ (.head _)).2 2 _ rfl).1, ((h.2.2 _ (.head _)).2 3 _ rfl).1⟩)
    generalize ((w.alloc (.cells #[.int .i64 2, .int .i64 c, .int .u32 s, .string k, .string v] 32)).alloc (.cells #[.string ⟨#[]⟩, .string ⟨#[112, 117, 116]⟩, .string ⟨#[103, 101, 116]⟩, .string ⟨#[100, 101, 108]⟩] 9)) = W at *
    go_region_held3 (fun W => W.cell? ⟨w.heap.size, 0, none⟩ = some (.int .i64 2) ∧ W.cell? ⟨w.heap.size, 1, none⟩ = some (.int .i64 c) ∧ W.cell? ⟨w.heap.size, 2, none⟩ = some (.int .u32 s) ∧ W.cell? ⟨w.heap.size, 3, none⟩ = some (.string k)) (exact HC.out _ (by assumption)) (first | (go_at_call 31; refine (C2.out _).mono ?_; rintro e w4 ⟨rfl, hb4⟩; have hp4 := Rw.Rows.keep hb4 (by assumption)) | (go_at_call 32; refine (C1.out _).mono ?_; rintro e w5 ⟨rfl, hb5⟩; have hp5 := Rw.Rows.keep hb5 (by assumption)))
    have ⟨Q0, _⟩ := (hp5.2.2 _ (.head _)).2 0 _ rfl
    have ⟨Q4, _⟩ := (hp5.2.2 _ (.head _)).2 4 _ rfl
    clear HC
    go_wp2
    go_ret
    exact ⟨ret_text (by unfold textC; rw [if_neg (by decide), if_neg (by decide), P6.out]), hp5.1⟩
  by_cases h3 : o = 3
  · subst h3
    obtain rfl : wd = ⟨#[100, 101, 108]⟩ := C0.out.symm
    go_enter Tryd.func19, Tryd.ntmps19
    go_wp2
    have hp : Rw.Rows w w.heap.size [(w.heap.size, [.int .i64 3, .int .i64 c, .int .u32 s, .string k, .string v])] ((w.alloc (.cells #[.int .i64 3, .int .i64 c, .int .u32 s, .string k, .string v] 32)).alloc (.cells #[.string ⟨#[]⟩, .string ⟨#[112, 117, 116]⟩, .string ⟨#[103, 101, 116]⟩, .string ⟨#[100, 101, 108]⟩] 9)).drew := ⟨(Rw.below_2 _ _ _).drew, by simp; omega, by simp only [List.forall_mem_cons, List.not_mem_nil, false_imp_iff, implies_true, and_true]; exact ((Rw.Row.newAt _ _ _ _ rfl).alloc _).drew⟩
    have HC := Lib.hid (show ∀ W, Rw.Rows w w.heap.size [(w.heap.size, [.int .i64 3, .int .i64 c, .int .u32 s, .string k, .string v])] W → (W.cell? ⟨w.heap.size, 0, none⟩ = some (.int .i64 3) ∧ W.cell? ⟨w.heap.size, 1, none⟩ = some (.int .i64 c) ∧ W.cell? ⟨w.heap.size, 2, none⟩ = some (.int .u32 s) ∧ W.cell? ⟨w.heap.size, 3, none⟩ = some (.string k)) from fun W h => ⟨((h.2.2 _ (.head _)).2 0 _ rfl).1, ((h.2.2 _ (.head _)).2 1 _ rfl).1, ((h.2.2 _ (.head _)).2 2 _ rfl).1, ((h.2.2 _ (.head _)).2 3 _ rfl).1⟩)
    generalize ((w.alloc (.cells #[.int .i64 3, .int .i64 c, .int .u32 s, .string k, .string v] 32)).alloc (.cells #[.string ⟨#[]⟩, .string ⟨#[112, 117, 116]⟩, .string ⟨#[103, 101, 116]⟩, .string ⟨#[100, 101, 108]⟩] 9)) = W at *
    go_region_held3 (fun W => W.cell? ⟨w.heap.size, 0, none⟩ = some (.int .i64 3) ∧ W.cell? ⟨w.heap.size, 1, none⟩ = some (.int .i64 c) ∧ W.cell? ⟨w.heap.size, 2, none⟩ = some (.int .u32 s) ∧ W.cell? ⟨w.heap.size, 3, none⟩ = some (.string k)) (exact HC.out _ (by assumption)) (first | (go_at_call 31; refine (C2.out _).mono ?_; rintro e w4 ⟨rfl, hb4⟩; have hp4 := Rw.Rows.keep hb4 (by assumption)) | (go_at_call 32; refine (C1.out _).mono ?_; rintro e w5 ⟨rfl, hb5⟩; have hp5 := Rw.Rows.keep hb5 (by assumption)))
    have ⟨Q0, _⟩ := (hp5.2.2 _ (.head _)).2 0 _ rfl
    have ⟨Q4, _⟩ := (hp5.2.2 _ (.head _)).2 4 _ rfl
    clear HC
    go_wp2
    go_ret
    exact ⟨ret_text (by unfold textC; rw [if_neg (by decide), if_neg (by decide), P6.out]), hp5.1⟩
  obtain rfl : wd = ⟨#[63]⟩ := by rw [← C0.out]; unfold wordC; rw [if_neg h1, if_neg h2, if_neg h3]
  obtain h4 | ⟨h4, h5⟩ : o < 1 ∨ (¬ o < 1 ∧ 3 < o) := by omega
  · go_enter Tryd.func19, Tryd.ntmps19
    go_wp2
    have hp : Rw.Rows w w.heap.size [(w.heap.size, [.int .i64 o, .int .i64 c, .int .u32 s, .string k, .string v])] (w.alloc (.cells #[.int .i64 o, .int .i64 c, .int .u32 s, .string k, .string v] 32)).drew := ⟨(below_1 _ _).drew, by simp, by simp only [List.forall_mem_cons, List.not_mem_nil, false_imp_iff, implies_true, and_true]; exact (Rw.Row.newAt _ _ _ _ rfl).drew⟩
    have HC := Lib.hid (show ∀ W, Rw.Rows w w.heap.size [(w.heap.size, [.int .i64 o, .int .i64 c, .int .u32 s, .string k, .string v])] W → (W.cell? ⟨w.heap.size, 0, none⟩ = some (.int .i64 o) ∧ W.cell? ⟨w.heap.size, 1, none⟩ = some (.int .i64 c) ∧ W.cell? ⟨w.heap.size, 2, none⟩ = some (.int .u32 s) ∧ W.cell? ⟨w.heap.size, 3, none⟩ = some (.string k)) from fun W h => ⟨((h.2.2 _ (.head _)).2 0 _ rfl).1, ((h.2.2 _ (.head _)).2 1 _ rfl).1, ((h.2.2 _ (.head _)).2 2 _ rfl).1, ((h.2.2 _ (.head _)).2 3 _ rfl).1⟩)
    generalize (w.alloc (.cells #[.int .i64 o, .int .i64 c, .int .u32 s, .string k, .string v] 32)) = W at *
    go_region_held3 (fun W => W.cell? ⟨w.heap.size, 0, none⟩ = some (.int .i64 o) ∧ W.cell? ⟨w.heap.size, 1, none⟩ = some (.int .i64 c) ∧ W.cell? ⟨w.heap.size, 2, none⟩ = some (.int .u32 s) ∧ W.cell? ⟨w.heap.size, 3, none⟩ = some (.string k)) (exact HC.out _ (by assumption)) (first | (go_at_call 31; refine (C2.out _).mono ?_; rintro e w4 ⟨rfl, hb4⟩; have hp4 := Rw.Rows.keep hb4 (by assumption)) | (go_at_call 32; refine (C1.out _).mono ?_; rintro e w5 ⟨rfl, hb5⟩; have hp5 := Rw.Rows.keep hb5 (by assumption)))
    have ⟨Q0, _⟩ := (hp5.2.2 _ (.head _)).2 0 _ rfl
    have ⟨Q4, _⟩ := (hp5.2.2 _ (.head _)).2 4 _ rfl
    clear HC
    go_wp2
    go_ret
    exact ⟨ret_text (by unfold textC; rw [if_neg ho, if_neg h1, P6.out]), hp5.1⟩
  · go_enter Tryd.func19, Tryd.ntmps19
    go_wp2
    have hp : Rw.Rows w w.heap.size [(w.heap.size, [.int .i64 o, .int .i64 c, .int .u32 s, .string k, .string v])] (w.alloc (.cells #[.int .i64 o, .int .i64 c, .int .u32 s, .string k, .string v] 32)).drew := ⟨(below_1 _ _).drew, by simp, by simp only [List.forall_mem_cons, List.not_mem_nil, false_imp_iff, implies_true, and_true]; exact (Rw.Row.newAt _ _ _ _ rfl).drew⟩
    have HC := Lib.hid (show ∀ W, Rw.Rows w w.heap.size [(w.heap.size, [.int .i64 o, .int .i64 c, .int .u32 s, .string k, .string v])] W → (W.cell? ⟨w.heap.size, 0, none⟩ = some (.int .i64 o) ∧ W.cell? ⟨w.heap.size, 1, none⟩ = some (.int .i64 c) ∧ W.cell? ⟨w.heap.size, 2, none⟩ = some (.int .u32 s) ∧ W.cell? ⟨w.heap.size, 3, none⟩ = some (.string k)) from fun W h => ⟨((h.2.2 _ (.head _)).2 0 _ rfl).1, ((h.2.2 _ (.head _)).2 1 _ rfl).1, ((h.2.2 _ (.head _)).2 2 _ rfl).1, ((h.2.2 _ (.head _)).2 3 _ rfl).1⟩)
    generalize (w.alloc (.cells #[.int .i64 o, .int .i64 c, .int .u32 s, .string k, .string v] 32)) = W at *
    go_region_held3 (fun W => W.cell? ⟨w.heap.size, 0, none⟩ = some (.int .i64 o) ∧ W.cell? ⟨w.heap.size, 1, none⟩ = some (.int .i64 c) ∧ W.cell? ⟨w.heap.size, 2, none⟩ = some (.int .u32 s) ∧ W.cell? ⟨w.heap.size, 3, none⟩ = some (.string k)) (exact HC.out _ (by assumption)) (first | (go_at_call 31; refine (C2.out _).mono ?_; rintro e w4 ⟨rfl, hb4⟩; have hp4 := Rw.Rows.keep hb4 (by assumption)) | (go_at_call 32; refine (C1.out _).mono ?_; rintro e w5 ⟨rfl, hb5⟩; have hp5 := Rw.Rows.keep hb5 (by assumption)))
    have ⟨Q0, _⟩ := (hp5.2.2 _ (.head _)).2 0 _ rfl
    have ⟨Q4, _⟩ := (hp5.2.2 _ (.head _)).2 4 _ rfl
    clear HC
    go_wp2
    go_ret
    exact ⟨ret_text (by unfold textC; rw [if_neg ho, if_neg h1, P6.out]), hp5.1⟩
end Go.Proofs.YtolgboedinbpeaaDoor.Cm
