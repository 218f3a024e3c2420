/-
  Contracts of package ballot and of the document's own answer: as bytes.
-/
import Derived.Test.YthmadcmoendndaaDoorBalW
import Derived.Deep.RegionHeld3
import Derived.Deep.QuietTactic
import Derived.BigQuiet
namespace Go.Proofs.YthmadcmoendndaaDoor.Bl
open Go.RowKit
open Pk (bcell scope_ahead numB number)

theorem ret_text {a b : ByteArray} (h : a = b) : Ending.returned (.string a) = .returned (.string b) := by rw [h]

theorem put_any (r v : Int) (s : ByteArray) (h : putB r v = s) (h0 : 0 ≤ r) (hr : r ≤ 4294967295) (w : World) : Calls Tryd.prog 20 #[.agg #[.int .u32 r, .int .i64 v]] w fun e w' => e = .returned (.string s) ∧ Below w.heap.size w w' := by
  have e : ∀ m : Int, IntKind.u64.wrap m = m % 18446744073709551616 := fun m => by simp [IntKind.wrap, IntKind.bits, IntKind.signed]
  have w1 : IntKind.u64.wrap r = ((r.toNat : Nat) : Int) := by rw [e]; omega
  have w2 : IntKind.u64.wrap v = (((v % 18446744073709551616).toNat : Nat) : Int) := by rw [e]; omega
  have l1 : r.toNat < 18446744073709551616 := by omega
  have l2 : (v % 18446744073709551616).toNat < 18446744073709551616 := by omega
  have H : numB r.toNat 4 ++ numB (v % 18446744073709551616).toNat 1 = s := h
  have z1 := Pk.numB_size r.toNat 4
  have z2 := Pk.numB_size (v % 18446744073709551616).toNat 1
  generalize (v % 18446744073709551616).toNat = n2 at *
  generalize r.toNat = n1 at *
  have zz : ¬ 9223372036854775807 < (numB n1 4).size + (numB n2 1).size := by omega
  have HS := Lib.hid H
  clear z1 z2 h e h0 hr H
  go_enter Tryd.func20, Tryd.ntmps20
  go_wp2
  have hp := (One.new w (.int .u32 r) (.int .i64 v) 24).drew
  generalize w.alloc (.cells #[.int .u32 r, .int .i64 v] 24) = W at *
  go_region_held3 (fun w' => w'.cell? ⟨w.heap.size, 0, none⟩ = some (.int .u32 r) ∧ w'.cell? ⟨w.heap.size, 1, none⟩ = some (.int .i64 v)) (exact One.cells (by assumption)) ((go_at_call 27; refine (Pk.put_any _ _ (by assumption) _).mono ?_; rintro e w3 ⟨rfl, hb3⟩; have hp3 := One.keep hb3 (by assumption)))
  go_wp2
  go_ret
  exact ⟨ret_text HS.out, hp3.2.1⟩

theorem refput_any (r v : Int) (s : ByteArray) (h : putB r v = s) (h0 : 0 ≤ r) (hr : r ≤ 4294967295) (w : World) : Calls Tryd.prog 21 #[.agg #[.int .u32 r, .int .i64 v]] w fun e w' => e = .returned (.string s) ∧ Below w.heap.size w w' := by
  have e : ∀ m : Int, IntKind.u64.wrap m = m % 18446744073709551616 := fun m => by simp [IntKind.wrap, IntKind.bits, IntKind.signed]
  have w1 : IntKind.u64.wrap r = ((r.toNat : Nat) : Int) := by rw [e]; omega
  have w2 : IntKind.u64.wrap v = (((v % 18446744073709551616).toNat : Nat) : Int) := by rw [e]; omega
  have l1 : r.toNat < 18446744073709551616 := by omega
  have l2 : (v % 18446744073709551616).toNat < 18446744073709551616 := by omega
  have H : numB r.toNat 4 ++ numB (v % 18446744073709551616).toNat 1 = s := h
  have z1 := Pk.numB_size r.toNat 4
  have z2 := Pk.numB_size (v % 18446744073709551616).toNat 1
  generalize (v % 18446744073709551616).toNat = n2 at *
  generalize r.toNat = n1 at *
  have zz : ¬ 9223372036854775807 < (numB n1 4).size + (numB n2 1).size := by omega
  have HS := Lib.hid H
  clear z1 z2 h e h0 hr H
  go_enter Tryd.func21, Tryd.ntmps21
  go_wp2
  have hp := (One.new w (.int .u32 r) (.int .i64 v) 30).drew
  generalize w.alloc (.cells #[.int .u32 r, .int .i64 v] 30) = W at *
  go_region_held3 (fun w' => w'.cell? ⟨w.heap.size, 0, none⟩ = some (.int .u32 r) ∧ w'.cell? ⟨w.heap.size, 1, none⟩ = some (.int .i64 v)) (exact One.cells (by assumption)) ((go_at_call 28; refine (Pk.ref_put_any _ _ (by assumption) _).mono ?_; rintro e w3 ⟨rfl, hb3⟩; have hp3 := One.keep hb3 (by assumption)))
  go_wp2
  go_ret
  exact ⟨ret_text HS.out, hp3.2.1⟩

end Go.Proofs.YthmadcmoendndaaDoor.Bl
