/-
  Proved: for every text, every size and every byte the law PackBad returns true and leaves its inputs as they were. No condition beyond the form's own reach (the text at most 2^47 - 4096 bytes).
-/
import Derived.Test.YtmigofcicipejaaPackE
import Derived.Test.YtmigofcicipejaaPackL
import Derived.WalkKit
import Derived.ProofKit
import Derived.OpenShut
import Derived.ShutString
import Derived.SizedLaws
import Derived.ChangeOld
import Derived.Below
namespace Go.Proofs.Ytmigofcicipejaa.packBad
open Go.ChangeShapes Go.WideShapes Go.ChangeAt Go.RowKit
open Go.ChangeMaps (open_string shut_string)
set_option linter.unusedVariables false

theorem own : ownKnob Try.prog.godebug = none := by kernel_rfl
theorem laidOut : laidOutB Try.prog = true := by kernel_rfl

/-- WHAT THE WALK IS TOLD OF A SLICE OF INTEGERS THAT CAME IN: it is nil; or it leads to a row of 'cap' cells, the numbers 'zs' (the first 'len' are its elements, the rest its spare room), each fitting its kind. -/
def IsRow (k : IntKind) (w : World) (a : Option Addr) (len cap : Nat) (zs : List Int) : Prop :=
  (a = none ∧ len = 0 ∧ cap = 0 ∧ zs = []) ∨
  ∃ x, a = some x ∧ len ≤ cap ∧ cap ≤ maxLen ∧ zs.length = cap ∧ (∀ i, i < zs.length → w.cell? (x.add i) = some (.int k (zs.getD i 0))) ∧ ∀ n ∈ zs, (Lit.int k n).wf = true

set_option maxHeartbeats 4000000 in
theorem walk (a0 : ByteArray) (a1 : Int) (a2 : Int) (w : World) (w0 : a0.size ≤ 140737488351232) (w1 : (Lit.int .i64 a1).wf = true) (w2 : (Lit.int .u8 a2).wf = true) :
    Calls Try.prog 6 #[.string a0, .int .i64 a1, .int .u8 a2] w fun e w' => e = .returned (.bool true) ∧ Below w.heap.size w w' := by
  have hb2 : 0 ≤ a2 ∧ a2 ≤ 255 := by simpa [Lit.wf, IntKind.min, IntKind.max, IntKind.signed, IntKind.bits] using w2
  obtain ⟨n2, rfl⟩ := Int.eq_ofNat_of_zero_le hb2.1
  have hn2 : n2 < 256 := by omega
  have m0 : a0.size ≤ maxLen := by unfold maxLen; omega
  obtain ⟨v, hv⟩ : ∃ v : UInt8, v.toNat = n2 := ⟨UInt8.ofNat n2, by rw [UInt8.toNat_ofNat']; omega⟩
  have hf := Pk.flag_one v a0
  rw [hv] at hf
  obtain ⟨t, ht⟩ : ∃ t, (⟨#[v]⟩ : ByteArray) ++ a0 = t := ⟨_, rfl⟩
  have hts : t.size = 1 + a0.size := by rw [← ht, ByteArray.size_append]; rfl
  have htm : t.size ≤ maxLen := by unfold maxLen; omega
  have hcat : (1 : Int) + (a0.size : Int) ≤ 9223372036854775807 := by omega
  rw [ht] at hf
  have HT := Lib.hid ht
  have HF := Lib.hid hf
  have HV := Lib.hid hv
  clear hf ht hts hv
  go_enter Try.func6, Try.ntmps6
  go_wp2_with fail
  refine (Pk.examples_any _).mono ?_
  rintro e x1 ⟨rfl, hb⟩
  have bel1 : Below w.heap.size w x1 := hb
  clear hb 
  go_wp2_with fail
  refine (Pk.number_any a0 false 0 _ _ _ (Pk.number_out _ _ _ (by omega)) m0 _).mono ?_
  rintro e x2 ⟨rfl, hb⟩
  have bel2 : Below w.heap.size w (x2.alloc (.cells #[.string ⟨#[]⟩, .bool true] 23)) := (bel1.trans (hb.mono bel1.size)).alloc (Nat.le_trans bel1.size hb.size) _
  clear hb bel1
  have r := Pk.Box.new x2 ⟨#[]⟩ true 23
  go_wp2_with fail
  generalize x2.alloc (.cells #[.string ⟨#[]⟩, .bool true] 23) = X2 at *
  generalize x2.heap.size = gr at *
  refine (Pk.number_any ⟨#[]⟩ true a1 _ _ _ (Pk.number_bad _ _) (by decide) _).mono ?_
  rintro e x3 ⟨rfl, hb⟩
  have bel3 : Below w.heap.size w (x3.alloc (.cells #[.string ⟨#[]⟩, .bool true] 23)) := (bel2.trans (hb.mono bel2.size)).alloc (Nat.le_trans bel2.size hb.size) _
  have r' := (r.keep hb r.1).alloc (.cells #[.string ⟨#[]⟩, .bool true] 23)
  clear hb bel2 r
  have r := r'
  clear r'
  have a := Pk.Box.new x3 ⟨#[]⟩ true 23
  go_wp2_with fail
  generalize x3.alloc (.cells #[.string ⟨#[]⟩, .bool true] 23) = X3 at *
  generalize x3.heap.size = ga at *
  refine (Pk.text_any ⟨#[]⟩ true _ _ _ (Pk.text_bad _) (by decide) _).mono ?_
  rintro e x4 ⟨rfl, hb⟩
  have bel4 : Below w.heap.size w (x4.alloc (.cells #[.string ⟨#[]⟩, .bool true] 23)) := (bel3.trans (hb.mono bel3.size)).alloc (Nat.le_trans bel3.size hb.size) _
  have r' := (r.keep hb r.1).alloc (.cells #[.string ⟨#[]⟩, .bool true] 23)
  have a' := (a.keep hb a.1).alloc (.cells #[.string ⟨#[]⟩, .bool true] 23)
  clear hb bel3 r a
  have r := r'
  clear r'
  have a := a'
  clear a'
  have b := Pk.Box.new x4 ⟨#[]⟩ true 23
  go_wp2_with fail
  generalize x4.alloc (.cells #[.string ⟨#[]⟩, .bool true] 23) = X4 at *
  generalize x4.heap.size = gb at *
  refine (Pk.flag_any ⟨#[]⟩ true _ _ _ (Pk.flag_bad _) (by decide) _).mono ?_
  rintro e x5 ⟨rfl, hb⟩
  have bel5 : Below w.heap.size w (x5.alloc (.cells #[.string ⟨#[]⟩, .bool true] 23)) := (bel4.trans (hb.mono bel4.size)).alloc (Nat.le_trans bel4.size hb.size) _
  have r' := (r.keep hb r.1).alloc (.cells #[.string ⟨#[]⟩, .bool true] 23)
  have a' := (a.keep hb a.1).alloc (.cells #[.string ⟨#[]⟩, .bool true] 23)
  have b' := (b.keep hb b.1).alloc (.cells #[.string ⟨#[]⟩, .bool true] 23)
  clear hb bel4 r a b
  have r := r'
  clear r'
  have a := a'
  clear a'
  have b := b'
  clear b'
  have c := Pk.Box.new x5 ⟨#[]⟩ true 23
  go_wp2_with fail
  generalize x5.alloc (.cells #[.string ⟨#[]⟩, .bool true] 23) = X5 at *
  generalize x5.heap.size = gc at *
  refine (Pk.bytes_any ⟨#[]⟩ true a1 _ _ _ (Pk.next_bad _ _) (by decide) _).mono ?_
  rintro e x6 ⟨rfl, hb⟩
  have bel6 : Below w.heap.size w (x6.alloc (.cells #[.string ⟨#[]⟩, .bool true] 23)) := (bel5.trans (hb.mono bel5.size)).alloc (Nat.le_trans bel5.size hb.size) _
  have r' := (r.keep hb r.1).alloc (.cells #[.string ⟨#[]⟩, .bool true] 23)
  have a' := (a.keep hb a.1).alloc (.cells #[.string ⟨#[]⟩, .bool true] 23)
  have b' := (b.keep hb b.1).alloc (.cells #[.string ⟨#[]⟩, .bool true] 23)
  have c' := (c.keep hb c.1).alloc (.cells #[.string ⟨#[]⟩, .bool true] 23)
  clear hb bel5 r a b c
  have r := r'
  clear r'
  have a := a'
  clear a'
  have b := b'
  clear b'
  have c := c'
  clear c'
  have d := Pk.Box.new x6 ⟨#[]⟩ true 23
  go_wp2_with fail
  have hsz := Lib.hid (show (x6.alloc (.cells #[.string ⟨#[]⟩, .bool true] 23)).heap.size = x6.heap.size + 1 by simp)
  generalize x6.alloc (.cells #[.string ⟨#[]⟩, .bool true] 23) = X6 at *
  generalize x6.heap.size = gd at *
  have hby : Crc.Bytes (X6.alloc (.cells #[.int .u8 (n2 : Int)] 5)) (gd + 1) [v] := by rw [← hsz.out, ← HV.out]; exact Pk.one_byte X6 v
  have bel_n := bel6.alloc bel6.size (.cells #[.int .u8 (n2 : Int)] 5)
  have r' := r.alloc (.cells #[.int .u8 (n2 : Int)] 5)
  have a' := a.alloc (.cells #[.int .u8 (n2 : Int)] 5)
  have b' := b.alloc (.cells #[.int .u8 (n2 : Int)] 5)
  have c' := c.alloc (.cells #[.int .u8 (n2 : Int)] 5)
  have d' := d.alloc (.cells #[.int .u8 (n2 : Int)] 5)
  clear bel6 r a b c d
  have r := r'
  clear r'
  have a := a'
  clear a'
  have b := b'
  clear b'
  have c := c'
  clear c'
  have d := d'
  clear d'
  generalize X6.alloc (.cells #[.int .u8 (n2 : Int)] 5) = X at *
  have hbk := hby.back (P := Try.prog) 45 9 5 1 Try.underlying45 Try.underlying5 Try.underlying9
  rw [show [v].length = 1 from rfl, show [v].toArray = #[v] from rfl] at hbk
  clear hby
  go_simp
  clear hbk
  go_wp2_with fail
  rw [HT.out]
  clear hsz HV HT
  rcases (show 1 < n2 ∨ n2 = 1 ∨ n2 = 0 by omega) with h | rfl | rfl
  · have HF := Lib.hid (HF.out.trans (if_pos h))
    have h7 : ((n2 : Int) == 1) = false := by rw [beq_eq_false_iff_ne]; omega
    refine (Pk.flag_any t false _ _ _ HF.out htm _).mono ?_
    rintro e x7 ⟨rfl, hb⟩
    have bel7 : Below w.heap.size w x7 := (bel_n.trans (hb.mono bel_n.size))
    have r' := r.keep hb r.1
    have a' := a.keep hb a.1
    have b' := b.keep hb b.1
    have c' := c.keep hb c.1
    have d' := d.keep hb d.1
    clear hb bel_n r a b c d
    have r := r'
    clear r'
    have a := a'
    clear a'
    have b := b'
    clear b'
    have c := c'
    clear c'
    have d := d'
    clear d'
    have ⟨r_0, r_1, r_2, r_3, r_4⟩ := r
    have ⟨a_0, a_1, a_2, a_3, a_4⟩ := a
    have ⟨b_0, b_1, b_2, b_3, b_4⟩ := b
    have ⟨c_0, c_1, c_2, c_3, c_4⟩ := c
    have ⟨d_0, d_1, d_2, d_3, d_4⟩ := d
    go_wp2_with fail
    clear r_0 r_1 r_2 r_3 r_4 a_0 a_1 a_2 a_3 a_4 b_0 b_1 b_2 b_3 b_4 c_0 c_1 c_2 c_3 c_4 d_0 d_1 d_2 d_3 d_4
    have bel_e := bel7.alloc bel7.size (.cells #[.string ⟨#[]⟩, .bool true] 23)
    have r' := r.alloc (.cells #[.string ⟨#[]⟩, .bool true] 23)
    have a' := a.alloc (.cells #[.string ⟨#[]⟩, .bool true] 23)
    have b' := b.alloc (.cells #[.string ⟨#[]⟩, .bool true] 23)
    have c' := c.alloc (.cells #[.string ⟨#[]⟩, .bool true] 23)
    have d' := d.alloc (.cells #[.string ⟨#[]⟩, .bool true] 23)
    clear bel7 r a b c d
    have r := r'
    clear r'
    have a := a'
    clear a'
    have b := b'
    clear b'
    have c := c'
    clear c'
    have d := d'
    clear d'
    have e := Pk.Box.new x7 ⟨#[]⟩ true 23
    generalize x7.alloc (.cells #[.string ⟨#[]⟩, .bool true] 23) = X7 at *
    generalize x7.heap.size = ge at *
    refine (Pk.done_any ⟨#[]⟩ true _).mono ?_
    rintro e x8 ⟨rfl, hb⟩
    have bel8 : Below w.heap.size w x8 := (bel_e.trans (hb.mono bel_e.size))
    have r' := r.keep hb r.1
    have a' := a.keep hb a.1
    have b' := b.keep hb b.1
    have c' := c.keep hb c.1
    have d' := d.keep hb d.1
    have e' := e.keep hb e.1
    clear hb bel_e r a b c d e
    have r := r'
    clear r'
    have a := a'
    clear a'
    have b := b'
    clear b'
    have c := c'
    clear c'
    have d := d'
    clear d'
    have e := e'
    clear e'
    have ⟨r_0, r_1, r_2, r_3, r_4⟩ := r
    have ⟨a_0, a_1, a_2, a_3, a_4⟩ := a
    have ⟨b_0, b_1, b_2, b_3, b_4⟩ := b
    have ⟨c_0, c_1, c_2, c_3, c_4⟩ := c
    have ⟨d_0, d_1, d_2, d_3, d_4⟩ := d
    have ⟨e_0, e_1, e_2, e_3, e_4⟩ := e
    rw [show Pk.done ⟨#[]⟩ true = false by decide +kernel]
    go_wp2
    go_ret
    exact ⟨rfl, bel8⟩
  · have HF := Lib.hid (HF.out.trans (if_neg (by omega)))
    refine (Pk.flag_any t false _ _ _ HF.out htm _).mono ?_
    rintro e x7 ⟨rfl, hb⟩
    have bel7 : Below w.heap.size w x7 := (bel_n.trans (hb.mono bel_n.size))
    have r' := r.keep hb r.1
    have a' := a.keep hb a.1
    have b' := b.keep hb b.1
    have c' := c.keep hb c.1
    have d' := d.keep hb d.1
    clear hb bel_n r a b c d
    have r := r'
    clear r'
    have a := a'
    clear a'
    have b := b'
    clear b'
    have c := c'
    clear c'
    have d := d'
    clear d'
    have ⟨r_0, r_1, r_2, r_3, r_4⟩ := r
    have ⟨a_0, a_1, a_2, a_3, a_4⟩ := a
    have ⟨b_0, b_1, b_2, b_3, b_4⟩ := b
    have ⟨c_0, c_1, c_2, c_3, c_4⟩ := c
    have ⟨d_0, d_1, d_2, d_3, d_4⟩ := d
    go_wp2_with fail
    clear r_0 r_1 r_2 r_3 r_4 a_0 a_1 a_2 a_3 a_4 b_0 b_1 b_2 b_3 b_4 c_0 c_1 c_2 c_3 c_4 d_0 d_1 d_2 d_3 d_4
    have bel_e := bel7.alloc bel7.size (.cells #[.string a0, .bool false] 23)
    have r' := r.alloc (.cells #[.string a0, .bool false] 23)
    have a' := a.alloc (.cells #[.string a0, .bool false] 23)
    have b' := b.alloc (.cells #[.string a0, .bool false] 23)
    have c' := c.alloc (.cells #[.string a0, .bool false] 23)
    have d' := d.alloc (.cells #[.string a0, .bool false] 23)
    clear bel7 r a b c d
    have r := r'
    clear r'
    have a := a'
    clear a'
    have b := b'
    clear b'
    have c := c'
    clear c'
    have d := d'
    clear d'
    have e := Pk.Box.new x7 a0 false 23
    generalize x7.alloc (.cells #[.string a0, .bool false] 23) = X7 at *
    generalize x7.heap.size = ge at *
    refine (Pk.done_any ⟨#[]⟩ true _).mono ?_
    rintro e x8 ⟨rfl, hb⟩
    have bel8 : Below w.heap.size w x8 := (bel_e.trans (hb.mono bel_e.size))
    have r' := r.keep hb r.1
    have a' := a.keep hb a.1
    have b' := b.keep hb b.1
    have c' := c.keep hb c.1
    have d' := d.keep hb d.1
    have e' := e.keep hb e.1
    clear hb bel_e r a b c d e
    have r := r'
    clear r'
    have a := a'
    clear a'
    have b := b'
    clear b'
    have c := c'
    clear c'
    have d := d'
    clear d'
    have e := e'
    clear e'
    have ⟨r_0, r_1, r_2, r_3, r_4⟩ := r
    have ⟨a_0, a_1, a_2, a_3, a_4⟩ := a
    have ⟨b_0, b_1, b_2, b_3, b_4⟩ := b
    have ⟨c_0, c_1, c_2, c_3, c_4⟩ := c
    have ⟨d_0, d_1, d_2, d_3, d_4⟩ := d
    have ⟨e_0, e_1, e_2, e_3, e_4⟩ := e
    rw [show Pk.done ⟨#[]⟩ true = false by decide +kernel]
    go_wp2
    go_ret
    exact ⟨rfl, bel8⟩
  · have HF := Lib.hid (HF.out.trans (if_neg (by omega)))
    refine (Pk.flag_any t false _ _ _ HF.out htm _).mono ?_
    rintro e x7 ⟨rfl, hb⟩
    have bel7 : Below w.heap.size w x7 := (bel_n.trans (hb.mono bel_n.size))
    have r' := r.keep hb r.1
    have a' := a.keep hb a.1
    have b' := b.keep hb b.1
    have c' := c.keep hb c.1
    have d' := d.keep hb d.1
    clear hb bel_n r a b c d
    have r := r'
    clear r'
    have a := a'
    clear a'
    have b := b'
    clear b'
    have c := c'
    clear c'
    have d := d'
    clear d'
    have ⟨r_0, r_1, r_2, r_3, r_4⟩ := r
    have ⟨a_0, a_1, a_2, a_3, a_4⟩ := a
    have ⟨b_0, b_1, b_2, b_3, b_4⟩ := b
    have ⟨c_0, c_1, c_2, c_3, c_4⟩ := c
    have ⟨d_0, d_1, d_2, d_3, d_4⟩ := d
    go_wp2_with fail
    clear r_0 r_1 r_2 r_3 r_4 a_0 a_1 a_2 a_3 a_4 b_0 b_1 b_2 b_3 b_4 c_0 c_1 c_2 c_3 c_4 d_0 d_1 d_2 d_3 d_4
    have bel_e := bel7.alloc bel7.size (.cells #[.string a0, .bool false] 23)
    have r' := r.alloc (.cells #[.string a0, .bool false] 23)
    have a' := a.alloc (.cells #[.string a0, .bool false] 23)
    have b' := b.alloc (.cells #[.string a0, .bool false] 23)
    have c' := c.alloc (.cells #[.string a0, .bool false] 23)
    have d' := d.alloc (.cells #[.string a0, .bool false] 23)
    clear bel7 r a b c d
    have r := r'
    clear r'
    have a := a'
    clear a'
    have b := b'
    clear b'
    have c := c'
    clear c'
    have d := d'
    clear d'
    have e := Pk.Box.new x7 a0 false 23
    generalize x7.alloc (.cells #[.string a0, .bool false] 23) = X7 at *
    generalize x7.heap.size = ge at *
    refine (Pk.done_any ⟨#[]⟩ true _).mono ?_
    rintro e x8 ⟨rfl, hb⟩
    have bel8 : Below w.heap.size w x8 := (bel_e.trans (hb.mono bel_e.size))
    have r' := r.keep hb r.1
    have a' := a.keep hb a.1
    have b' := b.keep hb b.1
    have c' := c.keep hb c.1
    have d' := d.keep hb d.1
    have e' := e.keep hb e.1
    clear hb bel_e r a b c d e
    have r := r'
    clear r'
    have a := a'
    clear a'
    have b := b'
    clear b'
    have c := c'
    clear c'
    have d := d'
    clear d'
    have e := e'
    clear e'
    have ⟨r_0, r_1, r_2, r_3, r_4⟩ := r
    have ⟨a_0, a_1, a_2, a_3, a_4⟩ := a
    have ⟨b_0, b_1, b_2, b_3, b_4⟩ := b
    have ⟨c_0, c_1, c_2, c_3, c_4⟩ := c
    have ⟨d_0, d_1, d_2, d_3, d_4⟩ := d
    have ⟨e_0, e_1, e_2, e_3, e_4⟩ := e
    rw [show Pk.done ⟨#[]⟩ true = false by decide +kernel]
    go_wp2
    go_ret
    exact ⟨rfl, bel8⟩

set_option maxRecDepth 100000 in
theorem lifted (os : Os) (started : os.Started) (H : Type) (enc : TypeId × Value → H) :
    ReturnsInHanded {} Try.checked os 6 .any (Rows.packBadSpec.pre6 enc Try.prog Try.f6 Rows.packBadRow.domain false) (Rows.packBadSpec.post enc Try.prog Try.f6 false true false false) := by
  refine returnsInHanded_of_change_sized (C := Try.checked) own started (by kernel_rfl) Try.func6
    (ChangeSpec.witness6 (enc := enc) (C := Try.checked) false ⟨#[], #[.string ByteArray.empty, .int .i64 0, .int .u8 0], []⟩ 8 (by kernel_rfl) (by kernel_rfl) (by kernel_rfl) (by kernel_rfl)) ?_
  intro W base args ds gs before hval0 hW hcnd hsz0 _
  have hval : ∀ (j : Nat) t v, Try.f6.params[j]? = some t → args[j]? = some v → Value.okWide Try.prog W .any base t v := hval0
  have hsz : (DataW.weightsEach Try.prog (Try.f6.params.toList ++ Rows.packBadSpec.plain.varTypes Try.prog) (ds ++ gs)).all (· ≤ reachBytes) = true := hsz0
  have hW' := hW
  obtain ⟨p, q, hA0, hV, rfl, hfz, hnd⟩ := hW
  have hA : DataW.TrodAll enc Try.prog W 0 (fun _ => true) true Try.f6.params.toList args.toList ds p := hA0
  rw [Try.params6] at hA hval hsz
  obtain ⟨v0, vs0, d0, ds0, p0, q0, hargs, rfl, rfl, h0, r0⟩ := trodAll_cons hA
  obtain ⟨v1, vs1, d1, ds1, p1, q1, rfl, rfl, rfl, h1, r1⟩ := trodAll_cons r0
  obtain ⟨v2, vs2, d2, ds2, p2, q2, rfl, rfl, rfl, h2, r2⟩ := trodAll_cons r1
  obtain ⟨rfl, rfl, rfl⟩ := trodAll_nil r2
  obtain rfl : args = #[v0, v1, v2] := by cases args; simp_all
  obtain ⟨rfl, rfl⟩ := trodVars_none hV
  obtain ⟨a0, rfl, rfl, rfl, w0⟩ := open_string Try.underlying9 (hval 0 9 v0 rfl rfl) h0
  obtain ⟨a1, rfl, rfl, rfl, w1⟩ := open_int Try.underlying3 (hval 1 3 v1 rfl rfl) h1
  obtain ⟨a2, rfl, rfl, rfl, w2⟩ := open_int Try.underlying5 (hval 2 5 v2 rfl rfl) h2
  clear hA0 hval0
  have z0 : a0.size ≤ 140737488351232 := by
    have := sized_string hsz (j := 0) (t := 9) rfl rfl
    simp only [Array.length_toList, reachBytes] at this
    exact this
  refine (walk a0 a1 a2 W z0 w1 w2).mono fun e W' ⟨he, bel⟩ => ?_
  subst he
  exact ⟨_, rfl, _, _, _, [], _, [], hW', trodAll_mk1 (shut_bool Try.underlying4 _), (trodAll_cons_mk (shut_string Try.underlying9 w0) (trodAll_cons_mk (shut_int Try.underlying3 w1) (trodAll_cons_mk (shut_int Try.underlying5 w2) trodAll_mk0))), rfl, bel.frame _, fun h => by cases h⟩

theorem over : Rows.packBadRow.holds Try.pinned (OpenSpec.ofChange Rows.packBadSpec) :=
  OpenClaim.holds_of_wide 6 Try.f6 rfl rfl rfl rfl rfl rfl rfl ⟨rfl, rfl, rfl, rfl, rfl⟩ rfl rfl rfl rfl rfl (by kernel_rfl) Try.func6 (by kernel_rfl)
    (of_decide_eq_true (by kernel_rfl)) (by unfold Func.isWrapper; first | (rw [if_pos (by decide +kernel)]; kernel_rfl) | (rw [if_neg (by decide +kernel)]; exact ⟨rfl, rfl⟩))
    (fun os started H enc _ => lifted os started H enc)

theorem proved : Rows.PackBadSaid := over
end Go.Proofs.Ytmigofcicipejaa.packBad
