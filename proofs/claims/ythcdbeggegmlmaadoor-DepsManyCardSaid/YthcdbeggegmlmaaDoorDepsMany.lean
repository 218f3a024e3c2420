/-
  Proved: for every number the law DepsMany returns true and leaves its inputs as they were; the card ties the three tables of the library that the row lists to the text of the program. No condition beyond the form itself (each text at most 2^47 - 4096 bytes; the listed tables start as that text lays them).
-/
import Derived.Test.YthcdbeggegmlmaaDoorDepsE
import Derived.Test.YthcdbeggegmlmaaDoorDepsK
import Derived.Test.YthcdbeggegmlmaaDoorDepsS
import Derived.Test.YthcdbeggegmlmaaDoorBox
import Derived.Test.YthcdbeggegmlmaaDoorTab
import Derived.Test.YthcdbeggegmlmaaDoorPair
import Derived.Test.YthcdbeggegmlmaaDoorCards
import Derived.Test.YthcdbeggegmlmaaDoorTie
import Derived.Deep.DeepHandedRow
import Derived.LaidMore
import Derived.SevenTiedAt
import Derived.WalkKit
import Derived.ProofKit
import Derived.OpenShut
import Derived.ShutString
import Derived.SizedLaws
import Derived.ChangeOld
import Derived.Below
import Derived.Carry
import Derived.Lib.SmallJoins
import Derived.Deep.SlicePairs
import Derived.SliceStrings
import Derived.ChangeSlices
namespace Go.Proofs.YthcdbeggegmlmaaDoor.depsMany
open Go.ChangeShapes Go.WideShapes Go.ChangeAt Go.RowKit Go.Joins Go.Deep
open Go.ChangeMaps (open_string shut_string)
set_option linter.unusedVariables false

theorem own : ownKnob Tryd.prog.godebug = none := by kernel_rfl
theorem laidOut : laidOutB Tryd.prog = true := by kernel_rfl

theorem done_any (s : ByteArray) (b : Bool) (w : World) : Calls Tryd.prog 35 #[.agg #[.string s, .bool b]] w fun e w' => e = .returned (.bool (Pk.done s b)) ∧ Below w.heap.size w w' := by
  unfold Pk.done
  by_cases h : s.toList = []
  all_goals
    go_enter Tryd.func35, Tryd.ntmps35
    go_wp2
    go_ret
    exact ⟨Pk.ret_bool (by simp [h]), (Below.refl _ _).alloc (Nat.le_refl _) _⟩
def MSet (n k : Nat) (zs : List Dp.ID) : Prop := Dp.IsSet zs ∧ zs.length + k = n ∧ ∀ x ∈ zs, (k : Int) < x.2
theorem MSet.step {n k : Nat} {zs : List Dp.ID} (h : MSet n (k + 1) zs) (hn : n ≤ 500) (p : Int) (h1 : 1 ≤ p) (h7 : p ≤ 7) : MSet n k (Dp.addD zs (p, (k : Int) + 1)) := by
  have hr : Dp.rightD (p, (k : Int) + 1) = true := (Dp.rightD_iff _).2 (by have := h.2.1; show 1 ≤ p ∧ p ≤ 7 ∧ 1 ≤ (k : Int) + 1 ∧ (k : Int) + 1 ≤ 16777215; omega)
  have hm : ¬ (p, (k : Int) + 1) ∈ zs := fun hm => by
    have := h.2.2 _ hm
    simp only at this
    omega
  refine ⟨h.1.add _, ?_, fun x hx => ?_⟩
  · rw [Dp.add_length, if_pos ⟨hr, hm⟩]
    have := h.2.1
    omega
  · rcases Dp.mem_add.1 hx with hx | ⟨rfl, _⟩
    · have := h.2.2 x hx; omega
    · show (k : Int) < (k : Int) + 1; omega

set_option maxRecDepth 100000 in
set_option maxHeartbeats 4000000 in
theorem walk (a0 : Int) (w : World) (w0 : (Lit.int .u16 a0).wf = true) (ht : Bl.Tab w) :
    Calls Tryd.prog 8 #[.int .u16 a0] w fun e w' => e = .returned (.bool true) ∧ Below w.heap.size w w' := by
  have q0 : 0 ≤ a0 ∧ a0 ≤ 65535 := by simpa [Lit.wf, IntKind.min, IntKind.max, IntKind.signed, IntKind.bits] using w0
  obtain ⟨m, rfl⟩ := Int.eq_ofNat_of_zero_le q0.1
  obtain ⟨n, hn⟩ : ∃ n : Nat, (m : Int) % 501 = (n : Int) := ⟨m % 501, by omega⟩
  have hn5 : n ≤ 500 := by omega
  have HT := Lib.hid ht
  have cw : IntKind.i64.wrap (n : Int) = (n : Int) := Go.IntWalk.i64_in _ (by omega)
  clear q0 w0 ht
  go_enter Tryd.func8, Tryd.ntmps8
  go_wp2_with fail
  refine (Dp.examples_any w HT.out).mono ?_
  rintro e v1 ⟨rfl, hb⟩
  have B1 := Lib.hid hb
  clear hb
  go_wp2_with fail
  have HNN := Lib.hid hn
  clear hn
  go_loopw [5, 6] (fun v i W => ∃ (k : Nat) (zs : List Dp.ID) (ao : Option Addr) (ca : Nat), k ≤ n ∧ i = .int .i64 (k : Int) ∧ v = .slice ao zs.length ca ∧ Hid (Dp.Idz W ao ca zs) ∧ Hid (MSet n k zs) ∧ Hid (Below w.heap.size w W)) (fun _ i _ => (intOf i).toNat)
  case atStart => exact ⟨n, [], none, 0, Nat.le_refl _, rfl, rfl, Lib.hid ⟨Dp.Ids.nil _, fun _ => rfl⟩, Lib.hid ⟨Dp.IsSet.nil, by simp, fun x hx => by cases hx⟩, B1⟩
  case round =>
    clear B1
    obtain ⟨k, zs, ao, ca, hk, rfl, rfl, hI, hM, hB⟩ := hrel
    rcases k with _ | k
    · have hl : zs.length = n := hM.out.2.1
      have HL := Lib.hid hl
      have e1 : ((zs.length : Int) == (n : Int)) = true := by rw [beq_iff_eq, hl]
      have e2 : ((zs.length : Int) != (n : Int)) = false := by rw [bne, e1]; rfl
      have hset : Dp.setD zs = true := (Dp.setD_iff _).2 hM.out.1
      have HS := Lib.hid hset
      obtain ⟨s, ok, hs⟩ : ∃ s ok, Dp.putD zs = (s, ok) := ⟨_, _, rfl⟩
      have hway := Dp.putD_way _ _ _ hs
      have HP := Lib.hid hs
      by_cases hle : n ≤ 400
      · obtain rfl : ok = true := by
          rcases hway with h | h
          · exact h.2.2.1
          · rcases h.1 with h1 | h1
            · rw [hset] at h1; cases h1
            · omega
        have hsz := (Dp.putD_size zs s HP.out).1
        have hs4 : (s.size : Int) = 2 + 4 * (n : Int) := by omega
        have e5 : ((s.size : Int) == 2 + 4 * (n : Int)) = true := by rw [beq_iff_eq]; exact hs4
        have hsm : s.size ≤ maxLen := by unfold maxLen; omega
        have G : Hid (Dp.getD s false = (zs, ⟨#[]⟩, false)) := Lib.hid (by
          have := Dp.getD_back zs s ⟨#[]⟩ HP.out
          rwa [show s ++ (⟨#[]⟩ : ByteArray) = s from ByteArray.append_empty] at this)
        have i4 : (n : Int) ≤ 400 := by omega
        have HZ := Lib.hid hs4
        have m1 : IntKind.i64.wrap (4 * (n : Int)) = 4 * (n : Int) := Go.IntWalk.i64_in _ (by omega)
        have m2 : IntKind.i64.wrap (2 + 4 * (n : Int)) = 2 + 4 * (n : Int) := Go.IntWalk.i64_in _ (by omega)
        clear hl hset hway hs hsz hs4 hM
        go_wp2_with fail
        refine (Dp.putset_any zs s true HP.out ao ca _ hI.out.toIds).mono ?_
        rintro e v2 ⟨rfl, hb⟩
        have B2 := Lib.hid (hB.out.trans (hb.mono hB.out.size))
        have I2 := Lib.hid (hI.out.kept hb)
        clear hb
        go_wp2_with fail
        refine (Dp.set_any zs true HS.out ao ca v2 I2.out.toIds).mono ?_
        rintro e v3 ⟨rfl, hb⟩
        have B3 := Lib.hid (B2.out.trans (hb.mono B2.out.size))
        have I3 := Lib.hid (I2.out.kept hb)
        clear hb
        go_wp2_with fail
        refine (Dp.get_any s false zs ⟨#[]⟩ false G.out hsm v3).mono ?_
        rintro e v4 ⟨pb, cb, rfl, ib, hb⟩
        have B4 := Lib.hid (B3.out.trans (hb.mono B3.out.size))
        have I4 := Lib.hid (I3.out.kept hb)
        have IB4 := Lib.hid ib
        clear hb ib
        go_wp2_with fail
        have hb := Rw.below_1 v4 (.cells #[.string ⟨#[]⟩, .bool false] 51)
        have B5 := Lib.hid (B4.out.trans (hb.mono B4.out.size))
        have I5 := Lib.hid (I4.out.kept hb)
        have IB5 := Lib.hid (IB4.out.kept hb)
        have P5 := Lib.hid (Bl.Pair.new v4 (.string ⟨#[]⟩) (.bool false) 51)
        generalize v4.alloc (.cells #[.string ⟨#[]⟩, .bool false] 51) = v5 at *
        generalize v4.heap.size = g5 at *
        clear hb
        refine (Dp.equal_any zs zs true (decide_eq_true rfl) ao pb ca cb v5 I5.out.toIds IB5.out.toIds).mono ?_
        rintro e v6 ⟨rfl, hb⟩
        have B6 := Lib.hid (B5.out.trans (hb.mono B5.out.size))
        have ⟨M0, M1, M2, M3, M4⟩ := P5.out.over hb
        clear hb
        have D := done_any ⟨#[]⟩ false v6
        rw [show Pk.done ⟨#[]⟩ false = true from by decide +kernel] at D
        have HD := Lib.hid D
        clear D
        go_wp2_with fail
        refine HD.out.mono ?_
        rintro e v7 ⟨rfl, hb⟩
        have B7 := Lib.hid (B6.out.trans (hb.mono B6.out.size))
        clear hb
        go_wp2
        go_ret
        exact ⟨rfl, B7.out⟩
      · obtain ⟨rfl, rfl⟩ : ok = false ∧ s = ⟨#[]⟩ := by
          rcases hway with h | h
          · omega
          · exact ⟨h.2.1, h.2.2⟩
        have i4 : ¬ ((n : Int) ≤ 400) := by omega
        clear hl hset hway hs hM
        go_wp2_with fail
        refine (Dp.putset_any zs ⟨#[]⟩ false HP.out ao ca _ hI.out.toIds).mono ?_
        rintro e v2 ⟨rfl, hb⟩
        have B2 := Lib.hid (hB.out.trans (hb.mono hB.out.size))
        have I2 := Lib.hid (hI.out.kept hb)
        clear hb
        go_wp2_with fail
        refine (Dp.set_any zs true HS.out ao ca v2 I2.out.toIds).mono ?_
        rintro e v3 ⟨rfl, hb⟩
        have B3 := Lib.hid (B2.out.trans (hb.mono B2.out.size))
        clear hb
        go_wp2
        go_ret
        exact ⟨rfl, B3.out⟩
    · obtain ⟨p, hp⟩ : ∃ p : Int, 1 + ((k : Int) + 1) % 7 = p := ⟨_, rfl⟩
      have hM2 := hM.out.step hn5 p (by omega) (by omega)
      obtain ⟨zz, hzz⟩ : ∃ zz, Hid (Dp.addD zs (p, (k : Int) + 1) = zz) := ⟨_, Lib.hid rfl⟩
      rw [hzz.out] at hM2
      have HM2 := Lib.hid hM2
      have HS := Lib.hid hM.out.1
      have lz : zs.length ≤ 500 := by have := hM.out.2.1; omega
      clear hM hM2
      go_wp2_with fail
      refine (Dp.add_any zs zz p ((k : Int) + 1) hzz.out HS.out ao ca (by omega) _ hI.out).mono ?_
      rintro e v2 ⟨pa, cc, rfl, ia, hb⟩
      have B2 := Lib.hid (hB.out.trans (hb.mono hB.out.size))
      have IA := Lib.hid ia
      clear hb ia
      go_wp2
      exact ⟨⟨k, zz, pa, cc, by omega, by go_num, rfl, IA, HM2, B2⟩, by simp [intOf]⟩

theorem laid_met (os : Os) : laidMet Tryd.prog Rows.depsManyRow.laid ((World.doorLaid Tryd.prog 24 os).forCall (fun _ _ => 0) ⟨#[], #[.int .u16 0], []⟩).memory :=
  laidMet_of_run' 8 (by kernel_rfl) (by kernel_rfl)
theorem reads (os : Os) {H : Type} (enc : TypeId × Value → H) : ∃ places, DataW.whole enc Tryd.prog ((World.doorLaid Tryd.prog 24 os).forCall (fun _ _ => 0) ⟨#[], #[.int .u16 0], []⟩).memory Tryd.f8.params.toList Rows.depsManySpec.vars false (#[.int .u16 0] : Array Value).toList 8 = some ([.lit (.int .u16 0)], [], places) :=
  ⟨[], by kernel_rfl⟩

set_option maxRecDepth 100000 in
theorem lifted (os : Os) (started : os.Started) (H : Type) (enc : TypeId × Value → H) (F : Stop.Interp) :
    ReturnsInHanded {} Tryd.checked os 8 .any ((OpenSpec.ofChange Rows.depsManySpec).preRow enc Tryd.prog Tryd.f8 Rows.depsManyRow.domain false Rows.depsManyRow.laid) (((OpenSpec.ofChange Rows.depsManySpec).at F).post enc Tryd.prog Tryd.f8 false true false false) := by
  obtain ⟨places, hx⟩ := reads os enc
  refine returnsInHanded_of_row (C := Tryd.checked) (s := OpenSpec.ofChange Rows.depsManySpec) own started (by kernel_rfl) Tryd.func8
    (witness_row_at (enc := enc) (C := Tryd.checked) false (World.doorLaid Tryd.prog 24 os) #[.int .u16 0] rfl (by kernel_rfl) (by kernel_rfl) (by kernel_rfl)
      (OpenSpec.preRow_of_cond 8 hx (by kernel_rfl) (fun k hk => by cases hk) (by kernel_rfl) (laid_met os))) ?_
  intro W base args ds gs before hval0 hW _ _ hsz0 hL _ _
  have hval : ∀ (j : Nat) t v, Tryd.f8.params[j]? = some t → args[j]? = some v → Value.okWide Tryd.prog W .any base t v := hval0
  have hsz : (DataW.weightsEach Tryd.prog (Tryd.f8.params.toList ++ Rows.depsManySpec.plain.varTypes Tryd.prog) (ds ++ gs)).all (· ≤ reachBytes) = true := hsz0
  have hW' := hW
  obtain ⟨p, q, hA0, hV, rfl, hfz, hnd⟩ := hW
  have hA : DataW.TrodAll enc Tryd.prog W 0 (fun _ => true) true Tryd.f8.params.toList args.toList ds p := hA0
  rw [Tryd.params8] at hA hval hsz
  obtain ⟨v0, vs0, d0, ds0, p0, q0, hargs, rfl, rfl, h0, r0⟩ := trodAll_cons hA
  obtain ⟨rfl, rfl, rfl⟩ := trodAll_nil r0
  obtain rfl : args = #[v0] := by cases args; simp_all
  obtain ⟨rfl, rfl⟩ := trodVars_none hV
  obtain ⟨a0, rfl, rfl, rfl, w0⟩ := open_int Tryd.underlying60 (hval 0 60 v0 rfl rfl) h0
  clear hA0 hval0
  refine (walk a0 W w0 (Bl.tab_of hL)).mono fun e W' ⟨he, bel⟩ => ?_
  subst he
  exact ⟨_, rfl, _, _, _, [], _, [], hW', trodAll_mk1 (shut_bool Tryd.underlying4 _), (trodAll_cons_mk (shut_int Tryd.underlying60 w0) trodAll_mk0), rfl, bel.frame _, fun h => by cases h⟩

theorem over : Rows.depsManyRow.holds Tryd.pinned (OpenSpec.ofChange Rows.depsManySpec) :=
  OpenClaim.holds_of_cond 8 Tryd.f8 rfl rfl rfl rfl rfl rfl rfl ⟨rfl, rfl, rfl, rfl, rfl⟩ rfl rfl rfl rfl rfl (by kernel_rfl) Tryd.func8 (by kernel_rfl)
    (of_decide_eq_true (by kernel_rfl)) (by unfold Func.isWrapper; first | (rw [if_pos (by decide +kernel)]; kernel_rfl) | (rw [if_neg (by decide +kernel)]; exact ⟨rfl, rfl⟩))
    (fun os started H enc _ F => by rw [OpenClaim.pre_eq_preRow]; exact lifted os started H enc F)

/-- No parameter wants a stand-in. -/
theorem plain (f : FuncId) (fn : Func) (hf : Tryd.pinned.checked.prog.funcNamed "comitia/comitialaw08.DepsMany" = some f) (hfn : Tryd.pinned.checked.prog.funcs[f]? = some fn) :
    false = Tryd.pinned.checked.prog.looks [] ∧ ∀ (j : Nat) t, fn.params[j]? = some t → Tryd.pinned.checked.prog.wantsStandIn t = false := by
  obtain rfl : f = 8 := Option.some.inj ((show Tryd.prog.funcNamed "comitia/comitialaw08.DepsMany" = some 8 by kernel_rfl).symm.trans hf) |>.symm
  obtain rfl : fn = Tryd.f8 := (Option.some.inj (Tryd.func8.symm.trans hfn)).symm
  refine ⟨by kernel_rfl, fun j t ht => ?_⟩
  rw [Tryd.params8] at ht
  have hm : t ∈ [60] := by simpa using Array.mem_of_getElem? ht
  have hall : ([60].all fun u => !Tryd.prog.wantsStandIn u) = true := by kernel_rfl
  exact (show Tryd.prog.wantsStandIn t = false by simpa using List.all_eq_true.1 hall t hm)

theorem proved : Rows.DepsManyCardSaid :=
  Claim7.holds_tied_plain_at .later [] _ _ _ _ over (fun _ h => by cases h) (by kernel_rfl) (fun _ h => by cases h) depsMany_row_tie rfl ⟨rfl, rfl⟩ (by kernel_rfl) rfl plain (by kernel_rfl)
end Go.Proofs.YthcdbeggegmlmaaDoor.depsMany
