/-
  Contracts: Put, the document's. Conditions: as the theorem says.
-/
import Derived.Test.YtkemljpjfbmjgaaDoorDepsP
import Derived.Test.YtkemljpjfbmjgaaDoorPackV
namespace Go.Proofs.YtkemljpjfbmjgaaDoor.Dp
open Go.RowKit
set_option maxRecDepth 100000
open Pk (numB)

theorem accTo_step (l : List ID) (k : Nat) (hk : k < l.length) : accTo l (k + 1) = accTo l k ++ numB (l.getD k (0, 0)).1.toNat 1 ++ numB (l.getD k (0, 0)).2.toNat 3 := by
  rw [accTo_next l k hk, ByteArray.append_assoc]
set_option maxRecDepth 100000 in
set_option maxHeartbeats 1000000 in
theorem refputset_any (xs : List ID) (x : ByteArray) (ok : Bool) (h : putD xs = (x, ok)) (ao : Option Addr) (ca : Nat) (w : World) (ra : Ids w ao ca xs) :
    Calls Tryd.prog 29 #[.slice ao xs.length ca] w fun e w' => e = .returned (.tuple #[.string x, .bool ok]) ∧ Below w.heap.size w w' := by
  have lx : xs.length ≤ 9223372036854775807 := Nat.le_trans ra.le ra.capl
  have HA := Lib.hid ra
  clear ra
  rcases hs : setD xs with _ | _
  · obtain ⟨rfl, rfl⟩ : x = ⟨#[]⟩ ∧ ok = false := by
      unfold putD at h
      rw [if_neg (by rw [hs]; simp)] at h
      exact ⟨(congrArg Prod.fst h).symm, (congrArg Prod.snd h).symm⟩
    clear h
    have HS := Lib.hid hs
    clear hs
    go_enter Tryd.func29, Tryd.ntmps29
    go_wp2_with fail
    refine (refset_any xs false HS.out ao ca w HA.out).mono ?_
    rintro e w2 ⟨rfl, hb2⟩
    go_wp2
    exact bodyPost_ret (v := .tuple #[.string ⟨#[]⟩, .bool false]) (by simp [results, Tryd.results29, go_sem]) rfl ⟨rfl, hb2⟩
  · have HS := Lib.hid hs
    by_cases hm : xs.length ≤ 400
    · obtain ⟨hx, rfl⟩ : accTo xs xs.length = x ∧ ok = true := by
        unfold putD at h
        rw [if_pos ⟨hs, hm⟩] at h
        refine ⟨?_, (congrArg Prod.snd h).symm⟩
        have := congrArg Prod.fst h
        unfold accTo
        rw [List.take_length]
        exact this
      clear h hs
      have HX := Lib.hid hx
      clear hx
      have m0 : IntKind.u64.wrap (xs.length : Int) = ((xs.length : Nat) : Int) := by rw [IntKind.wrap_u64]; omega
      go_enter Tryd.func29, Tryd.ntmps29
      go_wp2_with fail
      refine (refset_any xs true HS.out ao ca w HA.out).mono ?_
      rintro e w2 ⟨rfl, hb2⟩
      have HB := Lib.hid hb2
      clear hb2
      go_wp2_with fail
      refine (Pk.ref_put_any xs.length 2 (by omega) w2).mono ?_
      rintro e w3 ⟨rfl, hb3⟩
      have HB3 := Lib.hid (HB.out.trans (hb3.mono HB.out.size))
      clear HB hb3
      obtain ⟨s0, hs0⟩ : ∃ s0, Hid (accTo xs 0 = s0) ∧ numB xs.length 2 = s0 := ⟨_, Lib.hid rfl, rfl⟩
      rw [hs0.2]
      have S0 := hs0.1
      clear hs0
      go_wp2_with fail
      go_loopw [4, 5] (fun v i W => ∃ (k : Nat) (s : ByteArray), k ≤ xs.length ∧ i = .int .i64 k ∧ v = .string s ∧ Hid (accTo xs k = s) ∧ s.size ≤ 1602 ∧ Hid (Below w.heap.size w W)) (fun _ i _ => xs.length - (intOf i).toNat)
      case atStart => exact ⟨0, s0, Nat.zero_le _, rfl, rfl, S0, by rw [← S0.out, accTo_size xs 0 (Nat.zero_le _)]; omega, HB3⟩
      case round =>
        clear HB3 S0
        obtain ⟨k, s, hk, rfl, rfl, hN, hsz, hW⟩ := hrel
        by_cases hlt : k < xs.length
        · obtain ⟨y, p1, p2, ex, rfl, hyb, c0, c1⟩ := (HA.out.kept hW.out).at hlt
          have hr := ((setD_all xs).1 HS.out k hlt).1
          rw [ex] at hr
          obtain ⟨m, n, rfl, rfl, b1, b2, b3, b4⟩ := right_nat hr
          have hacc := accTo_step xs k hlt
          rw [ex, hN.out] at hacc
          simp only [Int.toNat_natCast] at hacc
          have q1 := one_size m
          have q3 := three_size n
          obtain ⟨f, hf⟩ : ∃ f : Nat → Int → ByteArray, numB = f := ⟨_, rfl⟩
          have CN : Hid (∀ (j : Nat) (k : Int), j < 18446744073709551616 → ∀ W, Calls Tryd.prog 30 #[.int .u64 (j : Int), .int .i64 k] W fun e w' => e = .returned (.string (f j k)) ∧ Below W.heap.size W w') :=
            Lib.hid fun j k hj W => by rw [← hf]; exact Pk.ref_put_any j k hj W
          rw [hf] at hacc q1 q3
          have HC := Lib.hid hacc
          clear hacc hr ex hf
          have e1 : IntKind.u64.wrap (m : Int) = (m : Int) := by rw [IntKind.wrap_u64]; omega
          have e2 : IntKind.u64.wrap (n : Int) = (n : Int) := by rw [IntKind.wrap_u64]; omega
          have b5 : m < 18446744073709551616 := by omega
          have b6 : n < 18446744073709551616 := by omega
          have x1 : ¬ 9223372036854775807 < s.size + (f m 1).size := by omega
          have x2 : ¬ 9223372036854775807 < s.size + (f m 1).size + (f n 3).size := by omega
          have x3 : ¬ 9223372036854775807 < s.size + 1 := by omega
          have x4 : ¬ 9223372036854775807 < s.size + 1 + 3 := by omega
          have HD : Hid (∀ W, Below wr.heap.size wr W → W.cell? (y.add (k * 2)) = some (.int .i64 (m : Int)) ∧ W.cell? ⟨(y.add (k * 2)).block, (y.add (k * 2)).off + 1, none⟩ = some (.int .i64 (n : Int))) :=
            Lib.hid fun W h => ⟨(h.cell (by rw [block_of_add]; exact hyb)).trans c0, (h.cell (by show (y.add _).block < _; rw [block_of_add]; exact hyb)).trans c1⟩
          have hk0 : Below wr.heap.size wr wr.drew := (Below.refl _ _).drew
          clear c0 c1
          go_wp2_with fail
          go_region_held3 (fun w' => w'.cell? (y.add (k * 2)) = some (.int .i64 (m : Int)) ∧ w'.cell? ⟨(y.add (k * 2)).block, (y.add (k * 2)).off + 1, none⟩ = some (.int .i64 (n : Int))) (exact HD.out _ (by assumption)) ((go_at_call 30; refine (CN.out _ _ (by assumption) _).mono ?_; rintro e w6 ⟨rfl, hb6⟩; have hk6 := keep2 hb6 (by assumption)))
          have HW := Lib.hid (hW.out.trans (hk6.mono hW.out.size))
          have sz := accTo_size xs (k + 1) (by omega)
          rw [HC.out] at sz
          go_wp2
          exact ⟨⟨k + 1, _, by omega, by go_num, rfl, HC, by omega, HW⟩, by simp [intOf]; omega⟩
        · obtain rfl : k = xs.length := by omega
          obtain rfl : s = x := by rw [← HX.out]; exact hN.out.symm
          go_wp2
          exact bodyPost_ret (v := .tuple #[.string s, .bool true]) (by simp [results, Tryd.results29, go_sem]) rfl ⟨rfl, hW.out⟩
    · obtain ⟨rfl, rfl⟩ : x = ⟨#[]⟩ ∧ ok = false := by
        unfold putD at h
        rw [if_neg (by rintro ⟨_, h2⟩; exact hm h2)] at h
        exact ⟨(congrArg Prod.fst h).symm, (congrArg Prod.snd h).symm⟩
      clear h hs
      go_enter Tryd.func29, Tryd.ntmps29
      go_wp2_with fail
      refine (refset_any xs true HS.out ao ca w HA.out).mono ?_
      rintro e w2 ⟨rfl, hb2⟩
      go_wp2
      exact bodyPost_ret (v := .tuple #[.string ⟨#[]⟩, .bool false]) (by simp [results, Tryd.results29, go_sem]) rfl ⟨rfl, hb2⟩
end Go.Proofs.YtkemljpjfbmjgaaDoor.Dp
