/-
  Contracts: Put. Conditions: as each theorem says.
-/
import Derived.Test.YtkemljpjfbmjgaaDoorDepsA
import Derived.Test.YtkemljpjfbmjgaaDoorDepsB
import Derived.Test.YtkemljpjfbmjgaaDoorBuild
import Derived.Test.YtkemljpjfbmjgaaDoorPackT
namespace Go.Proofs.YtkemljpjfbmjgaaDoor.Dp
open Go.RowKit
set_option maxRecDepth 100000
open Pk (numB scope_ahead)

/-- a builder that a call has made holds a text -/
def Says (B b : Nat) (s : ByteArray) (W : World) : Prop := Lib.IsBuilder 93 5 B b (Lib.byteCells s.data.toList) W
theorem Says.over {B b : Nat} {s : ByteArray} {W W' : World} (h : Says B b s W) (hb : Below W.heap.size W W') : Says B b s W' := by
  have key : ∀ p, Lib.BuilderAt 93 5 B b p (Lib.byteCells s.data.toList) W → Lib.BuilderAt 93 5 B b p (Lib.byteCells s.data.toList) W' := by
    rintro p ⟨h1, v, h2, h3, h4⟩
    exact ⟨h1, v, (hb.block b (Array.getElem?_eq_some_iff.1 h2).1).trans h2, row_over h3 hb, h4⟩
  exact h.imp (key _) (key _)
theorem Says.new (w : World) : Says w.heap.size w.heap.size ⟨#[]⟩ (w.alloc (.cells #[.pointer none, .slice none 0 0] 93)) :=
  .inl ⟨Nat.le_refl _, .slice none 0 0, heap_alloc_new _ _, World.ownsRow_nil _ _ _ _, by simp [Value.ownBlock]⟩
theorem says_write (B b : Nat) (s t : ByteArray) (W : World) (h : Says B b s W) (hl : s.size + t.size ≤ 140737488355328) (hB : B ≤ W.heap.size) :
    Calls Tryd.prog 46 #[.pointer (some ⟨b, 0, none⟩), .string t] W fun e w' => e = .returned (.tuple #[.int .i64 t.size, .nilIface]) ∧ Says B b (s ++ t) w' ∧ Below B W w' := by
  refine (Tryd.Builder_WriteString B b (Lib.byteCells s.data.toList) t W h (by rw [show (Lib.byteCells s.data.toList).length = s.size by simp [Lib.byteCells]]; exact hl) hB).mono ?_
  rintro e w' ⟨rfl, h1, h2⟩
  refine ⟨rfl, .inr ?_, h2⟩
  have e : Lib.byteCells s.data.toList ++ Lib.strCells t = Lib.byteCells (s ++ t).data.toList := by
    show Lib.byteCells s.data.toList ++ Lib.byteCells t.data.toList = _
    rw [← Lib.byteCells_append]
    simp
  rw [← e]
  exact h1
theorem says_string (B b : Nat) (s : ByteArray) (W : World) (h : Says B b s W) (hB : B ≤ W.heap.size) :
    Calls Tryd.prog 47 #[.pointer (some ⟨b, 0, none⟩)] W fun e w' => e = .returned (.string s) ∧ Below B W w' := by
  refine (Tryd.Builder_String_any B b s.data.toList W h hB).mono ?_
  rintro e w' ⟨rfl, h1⟩
  exact ⟨rfl, h1⟩

/-- what is put of the first k -/
def accTo (l : List ID) (k : Nat) : ByteArray := accD (numB l.length 2) (l.take k)
theorem accTo_next (l : List ID) (k : Nat) (hk : k < l.length) : accTo l (k + 1) = accTo l k ++ (numB (l.getD k (0, 0)).1.toNat 1 ++ numB (l.getD k (0, 0)).2.toNat 3) := by
  unfold accTo
  rw [List.take_succ_eq_append_getElem hk, accD_snoc, List.getD_eq_getElem?_getD, List.getElem?_eq_getElem hk, ByteArray.append_assoc]
  rfl
theorem accTo_size (l : List ID) (k : Nat) (hk : k ≤ l.length) : (accTo l k).size = 2 + 4 * k := by
  unfold accTo
  rw [accD_size, two_size, List.length_take]
  omega
theorem right_nat {p q : Int} (h : rightD (p, q) = true) : ∃ m n : Nat, p = m ∧ q = n ∧ 1 ≤ m ∧ m ≤ 7 ∧ 1 ≤ n ∧ n ≤ 16777215 := by
  have := (rightD_iff _).1 h
  simp only at this
  exact ⟨p.toNat, q.toNat, by omega, by omega, by omega, by omega, by omega, by omega⟩

set_option maxRecDepth 100000 in
set_option maxHeartbeats 1000000 in
theorem putset_any (xs : List ID) (x : ByteArray) (ok : Bool) (h : putD xs = (x, ok)) (ao : Option Addr) (ca : Nat) (w : World) (ra : Ids w ao ca xs) :
    Calls Tryd.prog 27 #[.slice ao xs.length ca] w fun e w' => e = .returned (.tuple #[.string x, .bool ok]) ∧ Below w.heap.size w w' := by
  have lx : xs.length ≤ 9223372036854775807 := Nat.le_trans ra.le ra.capl
  have HN := Lib.hid (Says.new w)
  have hb0 : Below w.heap.size w (w.alloc (.cells #[.pointer none, .slice none 0 0] 93)) := (Below.refl _ _).alloc (Nat.le_refl _) _
  have HA := Lib.hid ra
  clear ra
  by_cases hm : xs.length ≤ 400
  · rcases hs : setD xs with _ | _
    · obtain ⟨rfl, rfl⟩ : x = ⟨#[]⟩ ∧ ok = false := by
        unfold putD at h
        rw [if_neg (by rw [hs]; simp)] at h
        exact ⟨(congrArg Prod.fst h).symm, (congrArg Prod.snd h).symm⟩
      clear h
      have HS := Lib.hid hs
      clear hs
      go_enter Tryd.func27, Tryd.ntmps27
      go_wp2
      refine scope_ahead 0 rfl ?_
      go_wp2_with fail
      generalize w.alloc (.cells #[.pointer none, .slice none 0 0] 93) = w1 at *
      refine (set_any xs false HS.out ao ca w1 (HA.out.kept hb0)).mono ?_
      rintro e w2 ⟨rfl, hb2⟩
      have HB := Lib.hid (hb0.trans (hb2.mono hb0.size))
      clear hb0 hb2
      go_wp2
      go_step3
      refine ⟨rfl, ?_⟩
      go_wp2
      rw [Exit.noGoto_ret]
      exact bodyPost_ret (v := .tuple #[.string ⟨#[]⟩, .bool false]) (by simp [results, Tryd.results27, go_sem]) rfl ⟨rfl, HB.out⟩
    · obtain ⟨hx, rfl⟩ : accTo xs xs.length = x ∧ ok = true := by
        unfold putD at h
        rw [if_pos ⟨hs, hm⟩] at h
        refine ⟨?_, (congrArg Prod.snd h).symm⟩
        have := congrArg Prod.fst h
        unfold accTo
        rw [List.take_length]
        exact this
      clear h
      have HS := Lib.hid hs
      have HX := Lib.hid hx
      clear hs hx
      have m0 : IntKind.u64.wrap (xs.length : Int) = ((xs.length : Nat) : Int) := by rw [IntKind.wrap_u64]; omega
      go_enter Tryd.func27, Tryd.ntmps27
      go_wp2
      refine scope_ahead 0 rfl ?_
      go_wp2_with fail
      generalize w.alloc (.cells #[.pointer none, .slice none 0 0] 93) = w1 at *
      refine (set_any xs true HS.out ao ca w1 (HA.out.kept hb0)).mono ?_
      rintro e w2 ⟨rfl, hb2⟩
      have HN2 := Lib.hid (HN.out.over hb2)
      have HB := Lib.hid (hb0.trans (hb2.mono hb0.size))
      clear hb0 hb2 HN
      go_wp2_with fail
      refine (Pk.put_any xs.length 2 (by omega) w2).mono ?_
      rintro e w3 ⟨rfl, hb3⟩
      have HN3 := Lib.hid (HN2.out.over hb3)
      have HB3 := Lib.hid (HB.out.trans (hb3.mono HB.out.size))
      clear HN2 HB hb3
      go_wp2_with fail
      refine (says_write _ _ _ (numB xs.length 2) w3 HN3.out (by rw [two_size]; decide) HB3.out.size).mono ?_
      rintro e w4 ⟨rfl, hn4, hb4⟩
      have HN4 : Hid (Says w.heap.size w.heap.size (accTo xs 0) w4) := Lib.hid (by rw [show (⟨#[]⟩ : ByteArray) ++ numB xs.length 2 = numB xs.length 2 from ByteArray.empty_append] at hn4; exact hn4)
      have HB4 := Lib.hid (HB3.out.trans hb4)
      clear HN3 HB3 hn4 hb4
      go_wp2_with fail
      go_loopw [22] (fun i W => ∃ k : Nat, k ≤ xs.length ∧ i = .int .i64 k ∧ Hid (Says w.heap.size w.heap.size (accTo xs k) W) ∧ Hid (Below w.heap.size w W)) (fun i _ => xs.length - (intOf i).toNat)
      case atStart => exact ⟨0, Nat.zero_le _, rfl, HN4, HB4⟩
      case round =>
        clear HN4 HB4
        obtain ⟨k, hk, rfl, hN, hW⟩ := hrel
        by_cases hlt : k < xs.length
        · obtain ⟨y, p1, p2, ex, rfl, hyb, c0, c1⟩ := (HA.out.kept hW.out).at hlt
          have hr := ((setD_all xs).1 HS.out k hlt).1
          rw [ex] at hr
          obtain ⟨m, n, rfl, rfl, b1, b2, b3, b4⟩ := right_nat hr
          have hacc := accTo_next xs k hlt
          rw [ex] at hacc
          simp only [Int.toNat_natCast] at hacc
          have HC := Lib.hid hacc
          clear hacc hr ex
          have e1 : IntKind.u64.wrap (m : Int) = (m : Int) := by rw [IntKind.wrap_u64]; omega
          have e2 : IntKind.u64.wrap (n : Int) = (n : Int) := by rw [IntKind.wrap_u64]; omega
          go_wp2_with fail
          have d0 : (wr.alloc (.cells #[.int .i64 m, .int .i64 n] 58)).cell? ⟨wr.heap.size, 0, none⟩ = some (.int .i64 m) := two_new0 _ _ _ _
          have d1 : (wr.alloc (.cells #[.int .i64 m, .int .i64 n] 58)).cell? ⟨wr.heap.size, 1, none⟩ = some (.int .i64 n) := two_new1 _ _ _ _
          have hsz : wr.heap.size < (wr.alloc (.cells #[.int .i64 m, .int .i64 n] 58)).heap.size := by simp
          have HN5 := Lib.hid (hN.out.over ((Below.refl wr.heap.size wr).alloc (Nat.le_refl _) (.cells #[.int .i64 m, .int .i64 n] 58)))
          have HB5 := Lib.hid (hW.out.alloc hW.out.size (.cells #[.int .i64 m, .int .i64 n] 58))
          generalize wr.alloc (.cells #[.int .i64 m, .int .i64 n] 58) = W5 at *
          clear c0 c1
          have HD : Hid (∀ W, Below W5.heap.size W5 W → W.cell? ⟨wr.heap.size, 0, none⟩ = some (.int .i64 m) ∧ W.cell? ⟨wr.heap.size, 1, none⟩ = some (.int .i64 n)) :=
            Lib.hid fun W hW => ⟨(hW.cell (p := ⟨wr.heap.size, 0, none⟩) hsz).trans d0, (hW.cell (p := ⟨wr.heap.size, 1, none⟩) hsz).trans d1⟩
          have hk0 : Below W5.heap.size W5 W5.drew := (Below.refl _ _).drew
          have b5 : m < 18446744073709551616 := by omega
          have b6 : n < 18446744073709551616 := by omega
          have HL : Hid ((accTo xs k).size + (numB m 1 ++ numB n 3).size ≤ 140737488355328) := Lib.hid (by rw [accTo_size xs k hk, Pk.cat_size, one_size, three_size]; omega)
          clear hN hW hsz
          go_region_with (first
            | (go_at_call 28; refine (Pk.put_any _ _ (by assumption) _).mono ?_; rintro e w6 ⟨rfl, hb6⟩; have hk6 := keep2 hb6 (by assumption); have ⟨f0, f1⟩ := HD.out _ hk6)
            | (go_at_call 46; refine (says_write _ _ (accTo xs k) (numB m 1 ++ numB n 3) _ (HN5.out.over (by assumption)) HL.out (Nat.le_trans HB5.out.size (Below.size (by assumption)))).mono ?_; rintro e w8 ⟨rfl, hn8, hb8⟩))
          all_goals
            have HN9 := Lib.hid hn8
            rw [← HC.out] at HN9
            have HB9 := Lib.hid ((HB5.out.trans (hk6.mono HB5.out.size)).trans hb8)
            clear hn8 hb8
            go_wp2
            exact ⟨⟨k + 1, by omega, by go_num, HN9, HB9⟩, by simp [intOf]; omega⟩
        · obtain rfl : k = xs.length := by omega
          have hN2 : Says w.heap.size w.heap.size x wr := by rw [← HX.out]; exact hN.out
          have HN5 := Lib.hid hN2
          clear hN hN2
          go_wp2_with fail
          refine (says_string _ _ _ wr HN5.out hW.out.size).mono ?_
          rintro e w6 ⟨rfl, hb6⟩
          go_wp2
          simp only [Exit.jump]
          exact bodyPost_ret (v := .tuple #[.string x, .bool true]) (by simp [results, Tryd.results27, go_sem]) rfl ⟨rfl, hW.out.trans hb6⟩
  · obtain ⟨rfl, rfl⟩ : x = ⟨#[]⟩ ∧ ok = false := by
      unfold putD at h
      rw [if_neg (by rintro ⟨_, h2⟩; exact hm h2)] at h
      exact ⟨(congrArg Prod.fst h).symm, (congrArg Prod.snd h).symm⟩
    clear h
    have HB := Lib.hid hb0
    clear hb0
    go_enter Tryd.func27, Tryd.ntmps27
    go_wp2
    refine scope_ahead 0 rfl ?_
    go_wp2
    go_step3
    refine ⟨rfl, ?_⟩
    go_wp2
    rw [Exit.noGoto_ret]
    exact bodyPost_ret (v := .tuple #[.string ⟨#[]⟩, .bool false]) (by simp [results, Tryd.results27, go_sem]) rfl ⟨rfl, HB.out⟩
end Go.Proofs.YtkemljpjfbmjgaaDoor.Dp
