/-
  Contracts: of a number with a list of pairs: right, put, told. Conditions: as each theorem says.
-/
import Derived.Test.YtkemljpjfbmjgaaDoorAttrW
import Derived.Test.YtkemljpjfbmjgaaDoorDepsP
import Derived.Test.YtkemljpjfbmjgaaDoorDepsQ
import Derived.Test.YtkemljpjfbmjgaaDoorDepsR
import Derived.Test.YtkemljpjfbmjgaaDoorTab
namespace Go.Proofs.YtkemljpjfbmjgaaDoor.At
open Go.RowKit
open Dp (ID IsSet setD joinD putD getD textD triple Ids Idz InR)
open Bl (Pair Tab below_then below_set2)
open Pk (numB scope_ahead)
set_option maxRecDepth 100000

theorem right_any (n : Nat) (xs : List ID) (z : Bool) (h : rightA (n, xs) = z) (ao : Option Addr) (ca : Nat) (w : World) (ra : Ids w ao ca xs) :
    Calls Tryd.prog 17 #[.agg #[.int .u32 n, .slice ao xs.length ca]] w fun e w' => e = .returned (.bool z) ∧ Below w.heap.size w w' := by
  have HA := Lib.hid (fun W (h : Below w.heap.size w W) => ra.kept h)
  clear ra
  by_cases hl : xs.length ≤ 400
  · have hi : (xs.length : Int) ≤ 400 := by omega
    have HS : Hid (setD xs = z) := Lib.hid (by rw [← h]; simp [rightA, hl])
    clear h
    go_enter Tryd.func17, Tryd.ntmps17
    go_wp2_with fail
    refine (Dp.set_any xs z HS.out ao ca _ (HA.out _ (Bl.below_1 _ _))).mono ?_
    rintro e w3 ⟨rfl, hb⟩
    go_wp2
    go_ret
    exact ⟨rfl, below_then (Bl.below_1 _ _) hb (by simp)⟩
  · have hi : ¬ (xs.length : Int) ≤ 400 := by omega
    obtain rfl : z = false := by rw [← h]; simp [rightA, hl]
    clear h
    go_enter Tryd.func17, Tryd.ntmps17
    go_wp2
    go_ret
    exact ⟨rfl, Bl.below_1 _ _⟩
theorem refright_any (n : Nat) (xs : List ID) (z : Bool) (h : rightA (n, xs) = z) (ao : Option Addr) (ca : Nat) (w : World) (ra : Ids w ao ca xs) :
    Calls Tryd.prog 18 #[.agg #[.int .u32 n, .slice ao xs.length ca]] w fun e w' => e = .returned (.bool z) ∧ Below w.heap.size w w' := by
  have HA := Lib.hid (fun W (h : Below w.heap.size w W) => ra.kept h)
  clear ra
  obtain ⟨k, hk⟩ : ∃ k, Hid (setD xs = k) := ⟨_, Lib.hid rfl⟩
  have HP := Lib.hid (((Held.nil w).new (.int .u32 n) (.slice ao xs.length ca) 36 w.heap.size rfl))
  cases k with
  | false =>
    obtain rfl : z = false := by rw [← h]; simp [rightA, hk.out]
    clear h
    go_enter Tryd.func18, Tryd.ntmps18
    go_wp2_with fail
    refine (Dp.refset_any xs false hk.out ao ca _ (HA.out _ (Bl.below_1 _ _))).mono ?_
    rintro e w3 ⟨rfl, hb⟩
    go_wp2
    go_ret
    exact ⟨rfl, below_then (Bl.below_1 _ _) hb (by simp)⟩
  | true =>
    obtain rfl : z = decide (xs.length ≤ 400) := by rw [← h]; simp [rightA, hk.out]
    clear h
    by_cases hl : xs.length ≤ 400
    all_goals
      (try have hi : (xs.length : Int) ≤ 400 := by omega)
      (try have hi : ¬ (xs.length : Int) ≤ 400 := by omega)
      go_enter Tryd.func18, Tryd.ntmps18
      go_wp2_with fail
      refine (Dp.refset_any xs true hk.out ao ca _ (HA.out _ (Bl.below_1 _ _))).mono ?_
      rintro e w3 ⟨rfl, hb⟩
      have ⟨P0, P1, P2, P3⟩ := (HP.out.keep hb).two
      go_wp2
      go_ret
      exact ⟨by first | (simp [hl]; done) | (simp [hl]; omega), below_then (Bl.below_1 _ _) hb (by simp)⟩

theorem put_any (n : Nat) (hn : n < 4294967296) (xs : List ID) (x : ByteArray) (ok : Bool) (h : putA (n, xs) = (x, ok)) (hl : xs.length ≤ 1048576) (ao : Option Addr) (ca : Nat) (w : World) (ra : Ids w ao ca xs) :
    Calls Tryd.prog 11 #[.agg #[.int .u32 n, .slice ao xs.length ca]] w fun e w' => e = .returned (.tuple #[.string x, .bool ok]) ∧ Below w.heap.size w w' := by
  have HA := Lib.hid (fun W (h : Below w.heap.size w W) => ra.kept h)
  have HP := Lib.hid (((Held.nil w).new (.int .u32 n) (.slice ao xs.length ca) 25 w.heap.size rfl))
  clear ra
  have cw : IntKind.u64.wrap (n : Int) = (n : Int) := by simp [IntKind.wrap, IntKind.bits, IntKind.signed]; omega
  rcases put_way _ _ _ h with ⟨hr, rfl, y, hy, rfl⟩ | ⟨hr, rfl, rfl⟩
  · have hs1 := (Dp.putD_size xs y hy).1
    have hs2 := four_size n
    have HY := Lib.hid hy
    obtain ⟨f, hf⟩ : ∃ f, Hid (numB n 4 = f) := ⟨_, Lib.hid rfl⟩
    rw [hf.out] at hs2
    have hz : ¬ 9223372036854775807 < f.size + y.size := by omega
    clear h hr hy hs1 hs2
    rw [hf.out]
    go_enter Tryd.func11, Tryd.ntmps11
    go_wp2_with fail
    refine scope_ahead 0 rfl ?_
    go_wp2_with fail
    refine (Dp.putset_any xs y true HY.out ao ca _ (HA.out _ (Bl.below_1 _ _))).mono ?_
    rintro e w3 ⟨rfl, hb⟩
    have hH := Held.keep hb HP.out
    have ⟨P0, P1, P2, P3⟩ := hH.two
    go_wp2_with fail
    refine (Pk.put_any n 4 (by omega) _).mono ?_
    rintro e w4 ⟨rfl, hb4⟩
    have hH := Held.keep hb4 hH
    rw [hf.out]
    go_wp2
    simp only [Exit.jump]
    exact bodyPost_ret (v := .tuple #[.string (f ++ y), .bool true]) (by simp [results, Tryd.results11, go_sem]) rfl ⟨rfl, hH.1⟩
  · have HY : Hid (putD xs = (⟨#[]⟩, false)) := Lib.hid (by
      obtain ⟨s, k, e⟩ : ∃ s k, putD xs = (s, k) := ⟨_, _, rfl⟩
      have e2 := right_put (n, xs)
      rw [hr] at e2
      simp only [e] at e2
      subst e2
      rcases Dp.putD_way _ _ _ e with ⟨_, _, q, _⟩ | ⟨_, _, q⟩
      · cases q
      · rw [e, q])
    clear h hr
    go_enter Tryd.func11, Tryd.ntmps11
    go_wp2_with fail
    refine scope_ahead 0 rfl ?_
    go_wp2_with fail
    refine (Dp.putset_any xs ⟨#[]⟩ false HY.out ao ca _ (HA.out _ (Bl.below_1 _ _))).mono ?_
    rintro e w3 ⟨rfl, hb⟩
    have hH := Held.keep hb HP.out
    go_wp2
    go_step3
    refine ⟨rfl, ?_⟩
    go_wp2
    rw [Exit.noGoto_ret]
    exact bodyPost_ret (v := .tuple #[.string ⟨#[]⟩, .bool false]) (by simp [results, Tryd.results11, go_sem]) rfl ⟨rfl, hH.1⟩

theorem refput_any (n : Nat) (hn : n < 4294967296) (xs : List ID) (x : ByteArray) (ok : Bool) (h : putA (n, xs) = (x, ok)) (hl : xs.length ≤ 1048576) (ao : Option Addr) (ca : Nat) (w : World) (ra : Ids w ao ca xs) :
    Calls Tryd.prog 12 #[.agg #[.int .u32 n, .slice ao xs.length ca]] w fun e w' => e = .returned (.tuple #[.string x, .bool ok]) ∧ Below w.heap.size w w' := by
  have HA := Lib.hid (fun W (h : Below w.heap.size w W) => ra.kept h)
  have HP := Lib.hid (((Held.nil w).new (.int .u32 n) (.slice ao xs.length ca) 36 w.heap.size rfl))
  clear ra
  have cw : IntKind.u64.wrap (n : Int) = (n : Int) := by simp [IntKind.wrap, IntKind.bits, IntKind.signed]; omega
  rcases put_way _ _ _ h with ⟨hr, rfl, y, hy, rfl⟩ | ⟨hr, rfl, rfl⟩
  · have hs1 := (Dp.putD_size xs y hy).1
    have hs2 := four_size n
    have HY := Lib.hid hy
    obtain ⟨f, hf⟩ : ∃ f, Hid (numB n 4 = f) := ⟨_, Lib.hid rfl⟩
    rw [hf.out] at hs2
    have hz : ¬ 9223372036854775807 < f.size + y.size := by omega
    clear h hr hy hs1 hs2
    rw [hf.out]
    go_enter Tryd.func12, Tryd.ntmps12
    go_wp2_with fail
    
    refine (Dp.refputset_any xs y true HY.out ao ca _ (HA.out _ (Bl.below_1 _ _))).mono ?_
    rintro e w3 ⟨rfl, hb⟩
    have hH := Held.keep hb HP.out
    have ⟨P0, P1, P2, P3⟩ := hH.two
    go_wp2_with fail
    refine (Pk.ref_put_any n 4 (by omega) _).mono ?_
    rintro e w4 ⟨rfl, hb4⟩
    have hH := Held.keep hb4 hH
    rw [hf.out]
    go_wp2
    exact bodyPost_ret (v := .tuple #[.string (f ++ y), .bool true]) (by simp [results, Tryd.results12, go_sem]) rfl ⟨rfl, hH.1⟩
  · have HY : Hid (putD xs = (⟨#[]⟩, false)) := Lib.hid (by
      obtain ⟨s, k, e⟩ : ∃ s k, putD xs = (s, k) := ⟨_, _, rfl⟩
      have e2 := right_put (n, xs)
      rw [hr] at e2
      simp only [e] at e2
      subst e2
      rcases Dp.putD_way _ _ _ e with ⟨_, _, q, _⟩ | ⟨_, _, q⟩
      · cases q
      · rw [e, q])
    clear h hr
    go_enter Tryd.func12, Tryd.ntmps12
    go_wp2_with fail
    
    refine (Dp.refputset_any xs ⟨#[]⟩ false HY.out ao ca _ (HA.out _ (Bl.below_1 _ _))).mono ?_
    rintro e w3 ⟨rfl, hb⟩
    have hH := Held.keep hb HP.out
    go_wp2
    exact bodyPost_ret (v := .tuple #[.string ⟨#[]⟩, .bool false]) (by simp [results, Tryd.results12, go_sem]) rfl ⟨rfl, hH.1⟩

set_option maxHeartbeats 1000000 in
theorem text_any (n : Nat) (hn : n < 4294967296) (xs : List ID) (s : ByteArray) (h : (⟨(textA (n, xs)).toArray⟩ : ByteArray) = s) (hr : InR xs) (hl : xs.length ≤ 1048576) (ao : Option Addr) (ca : Nat) (w : World) (ra : Ids w ao ca xs) (ht : Tab w) :
    Calls Tryd.prog 20 #[.agg #[.int .u32 n, .slice ao xs.length ca]] w fun e w' => e = .returned (.string s) ∧ Below w.heap.size w w' := by
  have cw : IntKind.u64.wrap (n : Int) = (n : Int) := by simp [IntKind.wrap, IntKind.bits, IntKind.signed]; omega
  have hl1 := Bl.digits_size n (by omega)
  have hl2 := Dp.text_length xs hr
  have e1 : (⟨(Lib.decDigits n).toArray⟩ : ByteArray).size = (Lib.decDigits n).length := by show (Lib.decDigits n).toArray.size = _; simp
  have e2 : (⟨(textD xs).toArray⟩ : ByteArray).size = (textD xs).length := by show (textD xs).toArray.size = _; simp
  have h : ((⟨(Lib.decDigits n).toArray⟩ : ByteArray) ++ ⟨#[91]⟩) ++ ⟨(textD xs).toArray⟩ ++ ⟨#[93]⟩ = s := by
    rw [← h, show (⟨#[91]⟩ : ByteArray) = ⟨[91].toArray⟩ from rfl, show (⟨#[93]⟩ : ByteArray) = ⟨[93].toArray⟩ from rfl, Dp.cat_l, Dp.cat_l, Dp.cat_l]
    simp [textA]
  have HR := Lib.hid hr
  have C1 := Lib.hid (fun W (h : Below w.heap.size w W) => Bl.uint_any n (by omega) W (ht.over h))
  have C2 := Lib.hid (fun W (h : Below w.heap.size w W) => Dp.text_any xs _ rfl HR.out hl ao ca W (ra.kept h) (ht.over h))
  clear ht
  generalize (⟨(Lib.decDigits n).toArray⟩ : ByteArray) = S1 at *
  generalize (⟨(textD xs).toArray⟩ : ByteArray) = S2 at *
  obtain ⟨S3, hS3⟩ : ∃ S3, S1 ++ ⟨#[91]⟩ = S3 := ⟨_, rfl⟩
  rw [hS3] at h
  obtain ⟨S4, hS4⟩ : ∃ S4, S3 ++ S2 = S4 := ⟨_, rfl⟩
  rw [hS4] at h
  have k3 : S3.size = S1.size + 1 := by rw [← hS3, Pk.cat_size]; rfl
  have k4 : S4.size = S3.size + S2.size := by rw [← hS4, Pk.cat_size]
  have z1 : ¬ 9223372036854775807 < S1.size + 1 := by omega
  have z2 : ¬ 9223372036854775807 < S3.size + S2.size := by omega
  have z3 : ¬ 9223372036854775807 < S4.size + 1 := by omega
  have HS := Lib.hid h
  clear h ra hr hl1 hl2 e1 e2 k3 k4
  go_enter Tryd.func20, Tryd.ntmps20
  go_wp2
  have hp := (((Held.nil w).new (.int .u32 n) (.slice ao xs.length ca) 25 w.heap.size rfl)).drew
  generalize w.alloc (.cells #[.int .u32 n, .slice ao xs.length ca] 25) = W at *
  have HL := Lib.hid (fun W (h : Held w w.heap.size [(w.heap.size, .int .u32 n, .slice ao xs.length ca)] W) => And.intro h.two.1 h.two.2.1)
  go_region_held3 (fun w' => w'.cell? ⟨w.heap.size, 0, none⟩ = some (.int .u32 n) ∧ w'.cell? ⟨w.heap.size, 1, none⟩ = some (.slice ao xs.length ca)) (exact HL.out _ (by assumption)) (first | (go_at_call 36; refine (C1.out _ (And.left (by assumption))).mono ?_; rintro e w3 ⟨rfl, hb3⟩; have hp3 := Held.keep hb3 (by assumption)) | (go_at_call 37; refine (C2.out _ (And.left (by assumption))).mono ?_; rintro e w4 ⟨rfl, hb4⟩; have hp4 := Held.keep hb4 (by assumption)))
  all_goals (
    go_wp2
    go_ret
    first | exact ⟨Bl.ret_text HS.out, hp4.1⟩ | exact ⟨Bl.ret_text HS.out, hp3.1⟩)

set_option maxHeartbeats 1000000 in
theorem reftext_any (n : Nat) (hn : n < 4294967296) (xs : List ID) (s : ByteArray) (h : (⟨(textA (n, xs)).toArray⟩ : ByteArray) = s) (hr : InR xs) (hl : xs.length ≤ 1048576) (ao : Option Addr) (ca : Nat) (w : World) (ra : Ids w ao ca xs) :
    Calls Tryd.prog 21 #[.agg #[.int .u32 n, .slice ao xs.length ca]] w fun e w' => e = .returned (.string s) ∧ Below w.heap.size w w' := by
  have cw : IntKind.u64.wrap (n : Int) = (n : Int) := by simp [IntKind.wrap, IntKind.bits, IntKind.signed]; omega
  have hl1 := Bl.digits_size n (by omega)
  have hl2 := Dp.text_length xs hr
  have e1 : (⟨(Lib.decDigits n).toArray⟩ : ByteArray).size = (Lib.decDigits n).length := by show (Lib.decDigits n).toArray.size = _; simp
  have e2 : (⟨(textD xs).toArray⟩ : ByteArray).size = (textD xs).length := by show (textD xs).toArray.size = _; simp
  have h : ((⟨(Lib.decDigits n).toArray⟩ : ByteArray) ++ ⟨#[91]⟩) ++ ⟨(textD xs).toArray⟩ ++ ⟨#[93]⟩ = s := by
    rw [← h, show (⟨#[91]⟩ : ByteArray) = ⟨[91].toArray⟩ from rfl, show (⟨#[93]⟩ : ByteArray) = ⟨[93].toArray⟩ from rfl, Dp.cat_l, Dp.cat_l, Dp.cat_l]
    simp [textA]
  have HR := Lib.hid hr
  have C1 := Lib.hid (fun W => Bl.digits_any n (by omega) W)
  have C2 := Lib.hid (fun W (h : Below w.heap.size w W) => Dp.reftext_any xs _ rfl HR.out hl ao ca W (ra.kept h))
  generalize (⟨(Lib.decDigits n).toArray⟩ : ByteArray) = S1 at *
  generalize (⟨(textD xs).toArray⟩ : ByteArray) = S2 at *
  obtain ⟨S3, hS3⟩ : ∃ S3, S1 ++ ⟨#[91]⟩ = S3 := ⟨_, rfl⟩
  rw [hS3] at h
  obtain ⟨S4, hS4⟩ : ∃ S4, S3 ++ S2 = S4 := ⟨_, rfl⟩
  rw [hS4] at h
  have k3 : S3.size = S1.size + 1 := by rw [← hS3, Pk.cat_size]; rfl
  have k4 : S4.size = S3.size + S2.size := by rw [← hS4, Pk.cat_size]
  have z1 : ¬ 9223372036854775807 < S1.size + 1 := by omega
  have z2 : ¬ 9223372036854775807 < S3.size + S2.size := by omega
  have z3 : ¬ 9223372036854775807 < S4.size + 1 := by omega
  have HS := Lib.hid h
  clear h ra hr hl1 hl2 e1 e2 k3 k4
  go_enter Tryd.func21, Tryd.ntmps21
  go_wp2
  have hp := (((Held.nil w).new (.int .u32 n) (.slice ao xs.length ca) 36 w.heap.size rfl)).drew
  generalize w.alloc (.cells #[.int .u32 n, .slice ao xs.length ca] 36) = W at *
  have HL := Lib.hid (fun W (h : Held w w.heap.size [(w.heap.size, .int .u32 n, .slice ao xs.length ca)] W) => And.intro h.two.1 h.two.2.1)
  go_region_held3 (fun w' => w'.cell? ⟨w.heap.size, 0, none⟩ = some (.int .u32 n) ∧ w'.cell? ⟨w.heap.size, 1, none⟩ = some (.slice ao xs.length ca)) (exact HL.out _ (by assumption)) (first | (go_at_call 38; refine (C1.out _).mono ?_; rintro e w3 ⟨rfl, hb3⟩; have hp3 := Held.keep hb3 (by assumption)) | (go_at_call 39; refine (C2.out _ (And.left (by assumption))).mono ?_; rintro e w4 ⟨rfl, hb4⟩; have hp4 := Held.keep hb4 (by assumption)))
  all_goals (
    go_wp2
    go_ret
    first | exact ⟨Bl.ret_text HS.out, hp4.1⟩ | exact ⟨Bl.ret_text HS.out, hp3.1⟩)
end Go.Proofs.YtkemljpjfbmjgaaDoor.At
