/-
  Contracts of package cmd and of the document's own answer: as bytes.
-/
import Derived.Test.YtolgboedinbpeaaDoorCmdV
import Derived.Test.YtolgboedinbpeaaDoorPackG
import Derived.Deep.RegionHeld3
import Derived.Deep.QuietTactic
import Derived.BigQuiet
namespace Go.Proofs.YtolgboedinbpeaaDoor.Cm
open Go.RowKit
set_option maxRecDepth 100000
open Pk (bcell scope_ahead numB number textB)
open Bl (ret_bool ret_text)
open Rw (below_1 below_2 below_then)

set_option maxHeartbeats 1000000 in
theorem numbers_any (o c s : Int) (k v x : ByteArray) (h : headC o c s = x) (h0 : 0 ≤ s) (hr : s ≤ 4294967295) (w : World) :
    Calls Tryd.prog 24 #[.agg #[.int .i64 o, .int .i64 c, .int .u32 s, .string k, .string v]] w fun e w' => e = .returned (.string x) ∧ Below w.heap.size w w' := by
  have e : ∀ m : Int, IntKind.u64.wrap m = m % 18446744073709551616 := fun m => by simp [IntKind.wrap, IntKind.bits, IntKind.signed]
  have w1 : IntKind.u64.wrap o = (((o % 18446744073709551616).toNat : Nat) : Int) := by rw [e]; omega
  have w2 : IntKind.u64.wrap c = (((c % 18446744073709551616).toNat : Nat) : Int) := by rw [e]; omega
  have w3 : IntKind.u64.wrap s = ((s.toNat : Nat) : Int) := by rw [e]; omega
  have l1 : (o % 18446744073709551616).toNat < 18446744073709551616 := by omega
  have l2 : (c % 18446744073709551616).toNat < 18446744073709551616 := by omega
  have l3 : s.toNat < 18446744073709551616 := by omega
  unfold headC at h
  have z1 := Pk.numB_size (o % 18446744073709551616).toNat 1
  have z2 := Pk.numB_size (c % 18446744073709551616).toNat 1
  have z3 := Pk.numB_size s.toNat 4
  generalize (o % 18446744073709551616).toNat = n1 at *
  generalize (c % 18446744073709551616).toNat = n2 at *
  generalize s.toNat = n3 at *
  have zz : ¬ 9223372036854775807 < (numB n1 1).size + (numB n2 1).size := by omega
  have zy : ¬ 9223372036854775807 < (numB n1 1).size + (numB n2 1).size + (numB n3 4).size := by omega
  have HS := Lib.hid h
  clear z1 z2 z3 h e h0 hr
  go_enter Tryd.func24, Tryd.ntmps24
  go_wp2
  have hp : Rw.Rows w w.heap.size [(w.heap.size, [.int .i64 o, .int .i64 c, .int .u32 s, .string k, .string v])] (w.alloc (.cells #[.int .i64 o, .int .i64 c, .int .u32 s, .string k, .string v] 24)).drew :=
    ⟨(below_1 _ _).drew, by simp, by simp only [List.forall_mem_cons, List.not_mem_nil, false_imp_iff, implies_true, and_true]; exact (Rw.Row.newAt _ _ _ _ rfl).drew⟩
  have CELLS : ∀ W, Rw.Rows w w.heap.size [(w.heap.size, [.int .i64 o, .int .i64 c, .int .u32 s, .string k, .string v])] W → (W.cell? ⟨w.heap.size, 0, none⟩ = some (.int .i64 o) ∧ W.cell? ⟨w.heap.size, 1, none⟩ = some (.int .i64 c) ∧ W.cell? ⟨w.heap.size, 2, none⟩ = some (.int .u32 s)) :=
    fun W h => ⟨((h.2.2 _ (.head _)).2 0 _ rfl).1, ((h.2.2 _ (.head _)).2 1 _ rfl).1, ((h.2.2 _ (.head _)).2 2 _ rfl).1⟩
  have HC := Lib.hid CELLS
  clear CELLS
  generalize w.alloc (.cells #[.int .i64 o, .int .i64 c, .int .u32 s, .string k, .string v] 24) = W at *
  go_region_held3 (fun w' => w'.cell? ⟨w.heap.size, 0, none⟩ = some (.int .i64 o) ∧ w'.cell? ⟨w.heap.size, 1, none⟩ = some (.int .i64 c) ∧ w'.cell? ⟨w.heap.size, 2, none⟩ = some (.int .u32 s)) (exact HC.out _ (by assumption)) ((go_at_call 37; refine (Pk.put_any _ _ (by assumption) _).mono ?_; rintro e w3 ⟨rfl, hb3⟩; have hp3 := Rw.Rows.keep hb3 (by assumption)))
  go_wp2
  go_ret
  exact ⟨ret_text HS.out, hp3.1⟩

set_option maxHeartbeats 1000000 in
theorem bytes_any (o c s : Int) (k v x : ByteArray) (ok : Bool) (h : bytesC o c s k v = (x, ok)) (h0 : 0 ≤ s) (hr : s ≤ 4294967295) (w : World) :
    Calls Tryd.prog 11 #[.agg #[.int .i64 o, .int .i64 c, .int .u32 s, .string k, .string v]] w fun e w' => e = .returned (.tuple #[.string x, .bool ok]) ∧ Below w.heap.size w w' := by
  rcases bytesC_way _ _ _ _ _ _ _ h with ⟨hp, rfl, hx⟩ | ⟨hp, rfl, rfl⟩
  · obtain ⟨zk, zv⟩ := right_size hp
    have sk := textB_size k (by omega)
    have sv := textB_size v (by omega)
    have sh := headC_size o c s
    obtain ⟨tk, ok1, hk⟩ : ∃ t b, textB k = (t, b) := ⟨_, _, rfl⟩
    obtain ⟨tv, ok2, hv⟩ : ∃ t b, textB v = (t, b) := ⟨_, _, rfl⟩
    obtain ⟨hd, hh⟩ : ∃ t, headC o c s = t := ⟨_, rfl⟩
    rw [hk] at hx sk
    rw [hv] at hx sv
    rw [hh] at hx sh
    simp only at hx sk sv
    obtain ⟨m, hm⟩ : ∃ m, hd ++ tk = m := ⟨_, rfl⟩
    have sm : m.size = hd.size + tk.size := by rw [← hm]; exact Pk.cat_size _ _
    rw [hm] at hx
    have z1 : ¬ 9223372036854775807 < hd.size + tk.size := by omega
    have z2 : ¬ 9223372036854775807 < m.size + tv.size := by omega
    have zk' : k.size ≤ 281474976702464 := by omega
    have zv' : v.size ≤ 281474976702464 := by omega
    have HP := Lib.hid hp
    have HK := Lib.hid hk
    have HV := Lib.hid hv
    have HH := Lib.hid hh
    have HX := Lib.hid hx
    have HM := Lib.hid hm
    clear h hp hk hv hh hx hm sk sv sh sm zk zv
    go_enter Tryd.func11, Tryd.ntmps11
    go_wp2
    go_step3
    go_wp2_with fail
    refine (right_any o c s k v true HP.out _).mono ?_
    rintro e x1 ⟨rfl, hb⟩
    have k1 := (Rw.Row.newAt w [.int .i64 o, .int .i64 c, .int .u32 s, .string k, .string v] 24 _ rfl).over hb
    have bel := below_then (below_1 _ _) hb (by simp)
    clear hb
    have q0 := k1.2 0 _ rfl
    have q1 := k1.2 1 _ rfl
    have q2 := k1.2 2 _ rfl
    have q3 := k1.2 3 _ rfl
    have q4 := k1.2 4 _ rfl
    go_wp2_with fail
    refine (Pk.puttext_any k tk ok1 HK.out zk' _).mono ?_
    rintro e x2 ⟨rfl, hb⟩
    have k2 := k1.over hb
    have bel2 := below_then bel hb (Nat.le_of_lt k1.1)
    clear hb bel k1 q0 q1 q2 q3 q4
    have q4 := k2.2 4 _ rfl
    go_wp2_with fail
    refine (Pk.puttext_any v tv ok2 HV.out zv' _).mono ?_
    rintro e x3 ⟨rfl, hb⟩
    have k1 := k2.over hb
    have bel := below_then bel2 hb (Nat.le_of_lt k2.1)
    clear hb bel2 k2 q4
    have q0 := k1.2 0 _ rfl
    have q1 := k1.2 1 _ rfl
    have q2 := k1.2 2 _ rfl
    have q3 := k1.2 3 _ rfl
    have q4 := k1.2 4 _ rfl
    go_wp2_with fail
    refine (numbers_any o c s k v hd HH.out h0 hr _).mono ?_
    rintro e x4 ⟨rfl, hb⟩
    have bel2 := below_then bel hb (Nat.le_of_lt k1.1)
    clear hb bel k1 q0 q1 q2 q3 q4
    have hM := HM.out
    go_wp2
    rw [Exit.noGoto_ret]
    exact bodyPost_ret (v := .tuple #[.string x, .bool true]) (by simp [results, Tryd.results11, go_sem, HX.out]) rfl ⟨rfl, bel2⟩
  · have HP := Lib.hid hp
    clear h hp
    go_enter Tryd.func11, Tryd.ntmps11
    go_wp2
    refine scope_ahead 0 rfl ?_
    go_wp2_with fail
    refine (right_any o c s k v false HP.out _).mono ?_
    rintro e x1 ⟨rfl, hb⟩
    have bel := below_then (below_1 _ _) hb (by simp)
    clear hb
    go_wp2
    go_step3
    refine ⟨rfl, ?_⟩
    go_wp2
    rw [Exit.noGoto_ret]
    exact bodyPost_ret (v := .tuple #[.string ⟨#[]⟩, .bool false]) (by simp [results, Tryd.results11, go_sem]) rfl ⟨rfl, bel⟩

set_option maxHeartbeats 2000000 in
theorem refbytes_any (o c s : Int) (k v x : ByteArray) (ok : Bool) (h : bytesC o c s k v = (x, ok)) (h0 : 0 ≤ s) (hr : s ≤ 4294967295) (w : World) :
    Calls Tryd.prog 12 #[.agg #[.int .i64 o, .int .i64 c, .int .u32 s, .string k, .string v]] w fun e w' => e = .returned (.tuple #[.string x, .bool ok]) ∧ Below w.heap.size w w' := by
  rcases bytesC_way _ _ _ _ _ _ _ h with ⟨hp, rfl, hx⟩ | ⟨hp, rfl, rfl⟩
  · obtain ⟨zk, zv⟩ := right_size hp
    have e : ∀ m : Int, IntKind.u64.wrap m = m % 18446744073709551616 := fun m => by simp [IntKind.wrap, IntKind.bits, IntKind.signed]
    have w1 : IntKind.u64.wrap o = (((o % 18446744073709551616).toNat : Nat) : Int) := by rw [e]; omega
    have w2 : IntKind.u64.wrap c = (((c % 18446744073709551616).toNat : Nat) : Int) := by rw [e]; omega
    have w3 : IntKind.u64.wrap s = ((s.toNat : Nat) : Int) := by rw [e]; omega
    have l1 : (o % 18446744073709551616).toNat < 18446744073709551616 := by omega
    have l2 : (c % 18446744073709551616).toNat < 18446744073709551616 := by omega
    have l3 : s.toNat < 18446744073709551616 := by omega
    have z1 := Pk.numB_size (o % 18446744073709551616).toNat 1
    have z2 := Pk.numB_size (c % 18446744073709551616).toNat 1
    have z3 := Pk.numB_size s.toNat 4
    unfold headC at hx
    generalize (o % 18446744073709551616).toNat = n1 at *
    generalize (c % 18446744073709551616).toNat = n2 at *
    generalize s.toNat = n3 at *
    have sk := textB_size k (by omega)
    have sv := textB_size v (by omega)
    obtain ⟨tk, ok1, hk⟩ : ∃ t b, textB k = (t, b) := ⟨_, _, rfl⟩
    obtain ⟨tv, ok2, hv⟩ : ∃ t b, textB v = (t, b) := ⟨_, _, rfl⟩
    rw [hk] at hx sk
    rw [hv] at hx sv
    simp only at hx sk sv
    have y1 : ¬ 9223372036854775807 < (numB n1 1).size + (numB n2 1).size := by omega
    have y2 : ¬ 9223372036854775807 < (numB n1 1).size + (numB n2 1).size + (numB n3 4).size := by omega
    have y3 : ¬ 9223372036854775807 < (numB n1 1).size + (numB n2 1).size + (numB n3 4).size + tk.size := by omega
    have y4 : ¬ 9223372036854775807 < (numB n1 1).size + (numB n2 1).size + (numB n3 4).size + tk.size + tv.size := by omega
    have zk' : k.size ≤ 281474976702464 := by omega
    have zv' : v.size ≤ 281474976702464 := by omega
    have HP := Lib.hid hp
    have HK := Lib.hid hk
    have HV := Lib.hid hv
    have HX := Lib.hid hx
    clear h hp hk hv hx sk sv zk zv e z1 z2 z3 h0 hr
    go_enter Tryd.func12, Tryd.ntmps12
    go_wp2_with fail
    refine (refright_any o c s k v true HP.out _).mono ?_
    rintro e x1 ⟨rfl, hb⟩
    have k1 := (Rw.Row.newAt w [.int .i64 o, .int .i64 c, .int .u32 s, .string k, .string v] 32 _ rfl).over hb
    have bel := below_then (below_1 _ _) hb (by simp)
    clear hb
    have q3 := k1.2 3 _ rfl
    go_wp2_with fail
    refine (Pk.refputtext_any k tk ok1 HK.out zk' _).mono ?_
    rintro e x2 ⟨rfl, hb⟩
    have k2 := k1.over hb
    have bel2 := below_then bel hb (Nat.le_of_lt k1.1)
    clear hb bel k1 q3
    have q4 := k2.2 4 _ rfl
    go_wp2_with fail
    refine (Pk.refputtext_any v tv ok2 HV.out zv' _).mono ?_
    rintro e x3 ⟨rfl, hb⟩
    have k1 := k2.over hb
    have bel := below_then bel2 hb (Nat.le_of_lt k2.1)
    clear hb bel2 k2 q4
    go_wp2
    have hp : Rw.Rows w w.heap.size [(w.heap.size, [.int .i64 o, .int .i64 c, .int .u32 s, .string k, .string v])] x3.drew :=
      ⟨bel.drew, bel.size, by simp only [List.forall_mem_cons, List.not_mem_nil, false_imp_iff, implies_true, and_true]; exact k1.drew⟩
    have HC := Lib.hid (show ∀ W, Rw.Rows w w.heap.size [(w.heap.size, [.int .i64 o, .int .i64 c, .int .u32 s, .string k, .string v])] W → (W.cell? ⟨w.heap.size, 0, none⟩ = some (.int .i64 o) ∧ W.cell? ⟨w.heap.size, 1, none⟩ = some (.int .i64 c) ∧ W.cell? ⟨w.heap.size, 2, none⟩ = some (.int .u32 s)) from
      fun W h => ⟨((h.2.2 _ (.head _)).2 0 _ rfl).1, ((h.2.2 _ (.head _)).2 1 _ rfl).1, ((h.2.2 _ (.head _)).2 2 _ rfl).1⟩)
    clear bel k1
    go_region_held3 (fun w' => w'.cell? ⟨w.heap.size, 0, none⟩ = some (.int .i64 o) ∧ w'.cell? ⟨w.heap.size, 1, none⟩ = some (.int .i64 c) ∧ w'.cell? ⟨w.heap.size, 2, none⟩ = some (.int .u32 s)) (exact HC.out _ (by assumption)) ((go_at_call 26; refine (Pk.ref_put_any _ _ (by assumption) _).mono ?_; rintro e w3 ⟨rfl, hb3⟩; have hp3 := Rw.Rows.keep hb3 (by assumption)))
    go_wp2
    exact bodyPost_ret (v := .tuple #[.string x, .bool true]) (by simp [results, Tryd.results12, go_sem, HX.out]) rfl ⟨rfl, hp3.1⟩
  · have HP := Lib.hid hp
    clear h hp
    go_enter Tryd.func12, Tryd.ntmps12
    go_wp2_with fail
    refine (refright_any o c s k v false HP.out _).mono ?_
    rintro e x1 ⟨rfl, hb⟩
    have bel := below_then (below_1 _ _) hb (by simp)
    clear hb
    go_wp2
    exact bodyPost_ret (v := .tuple #[.string ⟨#[]⟩, .bool false]) (by simp [results, Tryd.results12, go_sem]) rfl ⟨rfl, bel⟩
end Go.Proofs.YtolgboedinbpeaaDoor.Cm
