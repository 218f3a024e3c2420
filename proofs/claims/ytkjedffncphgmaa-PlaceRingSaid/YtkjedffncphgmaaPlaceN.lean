/-
  Contracts: merge: of two lists one, the least far first, of the same those of the first. Conditions: as each theorem says.
-/
import Derived.Test.YtkjedffncphgmaaPlaceO
import Derived.ScopeJumps
import Derived.OwnWalk
import Derived.Deep.RegionHeld3
import Derived.Deep.RegionLaw
namespace Go.Proofs.Ytkjedffncphgmaa.Pl
open Go.RowKit

section
variable {P : Program} (w : World)
/-- append within the room, at a step of a region that draws its order -/
theorem step_append_fits {ops : Array Oper} {o : Oper} {a : Act} {K : Act → World → Prop} {Q : Exit → Act → World → Prop} {E : Prop} (hgd : o.guard = none) (s x : Operand) (t : TypeId)
    (ho : o.op = .call { callee := .builtin .append, args := #[s, x], argTypes := #[t, t] })
    (base : Nat) (e : TypeId) (i : TypeInfo) (size : Nat) (ht : P.underlying t = some (.slice e)) (hi : P.info? e = some i) (hsize : i.size = size)
    (g n cap : Nat) (xs : List Value) (hs : a.eval s = .slice (some ⟨g, 0, none⟩) n cap) (hown : w.ownsRow base e size (.slice (some ⟨g, 0, none⟩) n cap) n xs)
    (ad : Addr) (m c : Nat) (news : List Value) (hx : a.eval x = .slice (some ad) m c) (hl : news.length = m * size) (hnews : ∀ j u, news[j]? = some u → w.cell? (ad.add j) = some u) (h1 : ∀ u ∈ news, u.oneCell' = true)
    (hroom : n + m ≤ cap)
    (h : ∀ w', w'.ownsRow base e size (.slice (some ⟨g, 0, none⟩) (n + m) cap) (n + m) (xs ++ news) → w.grownBy w' (some g) → K (a.put o.dst (.slice (some ⟨g, 0, none⟩) (n + m) cap)) w') :
    if Region.wanted o (yielded ops a.tmps) = true then Oper.wp P o a w K Q else E := by
  have hw : Region.wanted o (yielded ops a.tmps) = true := by simp [Region.wanted, hgd]
  rw [if_pos hw]
  obtain ⟨w', hr, h2, h3⟩ := run_append_fits (P := P) w base t o.type e i size ht hi hsize g n cap xs hown ad m c news hl hnews h1 hroom
  unfold Oper.wp execOp
  simp only [ho, resolve, invoke, builtin, Sem.run_bind, Sem.run_pure, Result.andThen_ok, List.map_toArray, List.map_cons, List.map_nil, hs, hx, hr]
  exact h w' h2 h3
end

/-- a slice of whole numbers lies in memory -/
structure Reads (w : World) (ao : Option Addr) (cap : Nat) (xs : List Nat) : Prop where
  le : xs.length ≤ cap
  capl : cap ≤ maxLen
  empty : ao = none → cap = 0
  lies : ∀ j (h : j < xs.length), ∃ g o, ao = some ⟨g, o, none⟩ ∧ g < w.heap.size ∧ w.cell? ⟨g, o + j, none⟩ = some (.int .i64 (xs[j] : Int))

theorem Reads.kept {w w' : World} {ao : Option Addr} {cap : Nat} {xs : List Nat} (h : Reads w ao cap xs) (hb : Below w.heap.size w w') : Reads w' ao cap xs :=
  ⟨h.le, h.capl, h.empty, fun j hj => by
    obtain ⟨g, o, e, hg, hc⟩ := h.lies j hj
    exact ⟨g, o, e, Nat.lt_of_lt_of_le hg hb.size, (World.cell?_of_block (a := ⟨g, o + j, none⟩) (hb.block g hg)).trans hc⟩⟩

/-- .. what a call owns is such a one -/
theorem Reads.own {w : World} {B : Nat} {v : Value} {xs : List Nat} (h : w.ownsRow B 3 1 v xs.length (nats xs)) : ∃ ao cap, v = .slice ao xs.length cap ∧ Reads w ao cap xs := by
  have h' := h
  rcases h.2 with ⟨rfl, h0⟩ | ⟨g, cap, cur, rfl, hb, hg, hn, hc, _⟩
  · exact ⟨none, 0, by rw [h0], ⟨by omega, Nat.zero_le _, fun _ => rfl, fun j hj => absurd hj (by omega)⟩⟩
  · refine ⟨_, _, rfl, ⟨hn, hc, fun e => (by cases e), fun j hj => ⟨g, 0, rfl, (Array.getElem?_eq_some_iff.1 hg).1, ?_⟩⟩⟩
    rw [Nat.zero_add, h'.cellAt j (by omega)]
    simp [nats, hj]

/-- 'l[1:]' -/
theorem Reads.tail {w : World} {ao : Option Addr} {cap x : Nat} {xs : List Nat} (h : Reads w ao cap (x :: xs)) :
    ∃ ao', (∀ W : World, (Instr.slice 31 (.slice ao (xs.length + 1) cap) (some (.int .i64 1)) none none).run Try.prog W = .ok (.slice ao' xs.length (cap - 1)) W) ∧ Reads w ao' (cap - 1) xs := by
  refine ⟨if cap = 1 then ao else ao.map (·.add (1 * 1)), fun W => ?_, ?_⟩
  · rw [run_slice_l W 31 ao (xs.length + 1) cap Try.underlying31 .i64 1 (by omega) (by omega)]
    obtain ⟨i0, hi, hz0, hz1, hz2⟩ := info_parts (P := Try.prog) (e := 3) (z := .int .i64 0) (size := 1) (bytes := 8) (by kernel_rfl)
    have he : Try.prog.elem 31 = 3 := by kernel_rfl
    rw [he]
    simp [sizeOf, typeInfo, hi, hz1, Result.andThen, sliced]
  · have hle := h.le
    simp only [List.length_cons] at hle
    refine ⟨by omega, by have := h.capl; omega, fun e => ?_, fun j hj => ?_⟩
    · by_cases hc : cap = 1
      · omega
      · rw [if_neg hc] at e
        have := h.empty (by cases ao <;> simp_all)
        omega
    · rw [if_neg (by omega)]
      obtain ⟨g, o, e, hg, hc⟩ := h.lies (j + 1) (by simp; omega)
      refine ⟨g, o + 1, by rw [e]; simp [Addr.add_lit], hg, ?_⟩
      rw [show o + 1 + j = o + (j + 1) by omega]
      exact hc

theorem Reads.head {w : World} {ao : Option Addr} {cap x : Nat} {xs : List Nat} (h : Reads w ao cap (x :: xs)) : ∃ g o, ao = some ⟨g, o, none⟩ ∧ g < w.heap.size ∧ w.cell? ⟨g, o, none⟩ = some (.int .i64 (x : Int)) := by
  obtain ⟨g, o, e, hg, hc⟩ := h.lies 0 (by simp)
  exact ⟨g, o, e, hg, hc⟩

/-- a function value tells how far each of a list is, whatever has been made since -/
def Tells (first cap : Array Value) (d : Nat → Nat) (w0 : World) (xs : List Nat) : Prop :=
  ∀ i ∈ xs, ∀ W : World, Below w0.heap.size w0 W → Calls Try.prog 15 (first.push (.int .i64 (i : Int)) ++ cap) W fun e w' => e = .returned (.int .u64 (d i : Int)) ∧ w' = W.drew

/-- the least far first -/
def mg (d : Nat → Nat) (xs ys : List Nat) : List Nat := List.merge xs ys fun i j => decide (d i ≤ d j)
theorem mg_nil (d : Nat → Nat) (ys : List Nat) : mg d [] ys = ys := by simp [mg]
theorem mg_none (d : Nat → Nat) (xs : List Nat) : mg d xs [] = xs := by simp [mg]
theorem mg_left (d : Nat → Nat) (x y : Nat) (xs ys : List Nat) (h : d x ≤ d y) : mg d (x :: xs) (y :: ys) = x :: mg d xs (y :: ys) := by
  unfold mg; rw [List.cons_merge_cons, if_pos (by simpa using h)]
theorem mg_right (d : Nat → Nat) (x y : Nat) (xs ys : List Nat) (h : ¬ d x ≤ d y) : mg d (x :: xs) (y :: ys) = y :: mg d (x :: xs) ys := by
  unfold mg; rw [List.cons_merge_cons, if_neg (by simpa using h)]

theorem Reads.news {w : World} {ao : Option Addr} {cap : Nat} {xs : List Nat} (h : Reads w ao cap xs) : ∀ ad, ao = some ad → ∀ j u, (nats xs)[j]? = some u → w.cell? (ad.add j) = some u := by
  intro ad e j u hu
  have hj : j < xs.length := by
    have := (List.getElem?_eq_some_iff.1 hu).1
    simpa [nats] using this
  obtain ⟨g, o, e', hg, hc⟩ := h.lies j hj
  rw [e] at e'
  obtain rfl := Option.some.inj e'
  rw [Addr.add_lit, hc]
  simpa [nats, hj] using hu

theorem nats_one (xs : List Nat) : ∀ u ∈ nats xs, u.oneCell' = true := by
  intro u hu
  obtain ⟨_, _, rfl⟩ := List.mem_map.1 hu
  rfl

/-- in the midst of a merge -/
structure Mid (d : Nat → Nat) (first cap : Array Value) (w0 w : World) (xs ys : List Nat) (ao bo : Option Addr) (ca cb : Nat) (xs1 ys1 done : List Nat) (W : World) : Prop where
  ra : Reads w ao ca xs1
  rb : Reads w bo cb ys1
  ta : Tells first cap d w0 xs1
  tb : Tells first cap d w0 ys1
  own : W.ownsRow w.heap.size 3 1 (.slice (some ⟨w.heap.size, 0, none⟩) done.length (xs.length + ys.length)) done.length (nats done)
  bel : Below w.heap.size w W
  all : done ++ mg d xs1 ys1 = mg d xs ys
  len : done.length + xs1.length + ys1.length = xs.length + ys.length

/-- wp_scope_jumps, where what stands behind the label is walked once -/
theorem scope_once {P : Program} {c rest : Code} {Q : Exit → Act → World → Prop} {a : Act} {w : World} (l : Nat) (J : Act → World → Prop) (μ : Act → World → Nat) (hf : findLabel c l = some (Code.skip.seq rest))
    (pass : ∀ a w, J a w → rest.wp P (Exit.jump l (fun a' w' => J a' w' ∧ μ a' w' < μ a w) Q) a w)
    (first : (∀ a w, J a w → rest.wp P (Exit.jump l J Q) a w) → c.wp P (Exit.jump l J Q) a w) : (Code.scope c).wp P Q a w :=
  wp_scope_jumps l J μ hf (first fun a w h => Code.wp_mono (fun e a w h => by
    cases e <;> simp only [Exit.jump] at h ⊢ <;> first | exact h | exact ⟨h.1, h.2.1⟩) (pass a w h)) fun a w h => wp_seq (wp_skip (pass a w h))

/-- how long a slice is -/
def lenV : Value → Nat
  | .slice _ n _ => n
  | _ => 0

set_option maxRecDepth 100000 in
set_option maxHeartbeats 4000000 in
theorem merge_any (d : Nat → Nat) (f1 cp : Array Value) (w0 : World) (ao bo : Option Addr) (ca cb : Nat) (xs ys : List Nat) (hx : xs.length ≤ 1048576) (hy : ys.length ≤ 1048576) (w : World) (hb : Below w0.heap.size w0 w)
    (h1 : Tells f1 cp d w0 xs) (h2 : Tells f1 cp d w0 ys) (ra : Reads w ao ca xs) (rb : Reads w bo cb ys) :
    Calls Try.prog 17 #[.slice ao xs.length ca, .slice bo ys.length cb, .func (.func 15) f1 cp] w fun e w' => ∃ v cv, e = .returned (.slice v (xs.length + ys.length) cv) ∧ Reads w' v cv (mg d xs ys) ∧ Below w.heap.size w w' := by
  obtain ⟨i0, hi, hz0, hz1, hz2⟩ := info_parts (P := Try.prog) (e := 3) (z := .int .i64 0) (size := 1) (bytes := 8) (by kernel_rfl)
  go_enter Try.func17, Try.ntmps17
  go_wp2
  refine scope_once 0 (fun a' W => ∃ (ao1 bo1 : Option Addr) (ca1 cb1 : Nat) (xs1 ys1 done : List Nat), Mid d f1 cp w0 w xs ys ao1 bo1 ca1 cb1 xs1 ys1 done W ∧ ∃ (u8 u9 u10 u11 u12 u13 u14 u15 u16 u17 u18 u19 u20 u21 u22 u23 u24 u25 u26 u27 u28 u29 u30 u31 u32 u33 u34 u35 u36 u37 u38 u39 u40 u41 u42 u43 u44 u45 u46 u47 u48 u49 u50 u51 u52 u53 : Value), a' = { tmps := #[.slice ao1 xs1.length ca1, .slice bo1 ys1.length cb1, .func (.func 15) f1 cp, undef, undef, undef, .slice none 0 0, .slice (some ⟨w.heap.size, 0, none⟩) done.length (xs.length + ys.length), u8, u9, u10, u11, u12, u13, u14, u15, u16, u17, u18, u19, u20, u21, u22, u23, u24, u25, u26, u27, u28, u29, u30, u31, u32, u33, u34, u35, u36, u37, u38, u39, u40, u41, u42, u43, u44, u45, u46, u47, u48, u49, u50, u51, u52, u53], defers := [] }) (fun a' _ => lenV (a'.tmps.getD 0 undef) + lenV (a'.tmps.getD 1 undef)) rfl ?_ ?_
  · rintro a' W ⟨ao1, bo1, ca1, cb1, xs1, ys1, done, hM, u8, u9, u10, u11, u12, u13, u14, u15, u16, u17, u18, u19, u20, u21, u22, u23, u24, u25, u26, u27, u28, u29, u30, u31, u32, u33, u34, u35, u36, u37, u38, u39, u40, u41, u42, u43, u44, u45, u46, u47, u48, u49, u50, u51, u52, u53, rfl⟩
    have hlen := hM.len
    have hsz := hM.bel.size
    have tail : ∀ W1 W2 : World, W1.ownsRow w.heap.size 3 1 (.slice (some ⟨w.heap.size, 0, none⟩) (done.length + xs1.length) (xs.length + ys.length)) (done.length + xs1.length) (nats done ++ nats xs1) → W.grownBy W1 (some w.heap.size) →
        W2.ownsRow w.heap.size 3 1 (.slice (some ⟨w.heap.size, 0, none⟩) (xs.length + ys.length) (xs.length + ys.length)) (xs.length + ys.length) (nats done ++ (nats xs1 ++ nats ys1)) → W1.grownBy W2 (some w.heap.size) → (xs1 = [] ∨ ys1 = []) →
        Reads W2 (some ⟨w.heap.size, 0, none⟩) (xs.length + ys.length) (mg d xs ys) ∧ Below w.heap.size w W2 := by
      intro W1 W2 o1 g1 o2 g2 he
      have hm : done ++ xs1 ++ ys1 = mg d xs ys := by
        rw [← hM.all]
        rcases he with rfl | rfl
        · rw [mg_nil, List.append_nil]
        · rw [mg_none, List.append_nil]
      have hn : nats done ++ (nats xs1 ++ nats ys1) = nats (mg d xs ys) := by rw [← hm]; simp [nats]
      have hl : (mg d xs ys).length = xs.length + ys.length := by rw [← hm]; simp; omega
      have hb1 := hM.bel.grown g1 (by omega) (fun _ e => by cases e; exact Nat.le_refl _)
      refine ⟨?_, hb1.grown g2 (by have := g1.size; omega) (fun _ e => by cases e; exact Nat.le_refl _)⟩
      rw [hn] at o2
      have o3 : W2.ownsRow w.heap.size 3 1 (.slice (some ⟨w.heap.size, 0, none⟩) (mg d xs ys).length (xs.length + ys.length)) (mg d xs ys).length (nats (mg d xs ys)) := by rw [hl]; exact o2
      obtain ⟨v, cv, e, r⟩ := Reads.own o3
      simp only [Value.slice.injEq] at e
      obtain ⟨rfl, -, rfl⟩ := e
      exact r
    have HM := Lib.hid hM
    have HT := Lib.hid tail
    clear hM tail
    by_cases hx0 : xs1.length = 0
    · have e1 : ((xs1.length : Int) == 0) = true := by rw [beq_iff_eq]; omega
      have HE : Hid (xs1 = [] ∨ ys1 = []) := Lib.hid (.inl (List.eq_nil_of_length_eq_zero hx0))
      clear hx0
      go_wp2_with (at_builtin; refine wpList_append_fits_any _ rfl _ _ 31 rfl w.heap.size 3 i0 1 Try.underlying31 hi hz1 w.heap.size done.length (xs.length + ys.length) (nats done) rfl HM.out.own ao1 xs1.length ca1 (nats xs1) rfl (by simp [nats_length]) (fun e => by have := HM.out.ra.empty e; have := HM.out.ra.le; omega) (HM.out.ra.kept HM.out.bel).news (nats_one _) (by omega) ?_)
      intro W1 o1 g1
      have hb1 := HM.out.bel.grown g1 hsz (fun _ e => by cases e; exact Nat.le_refl _)
      go_wp2_with (at_builtin; refine wpList_append_fits_any _ rfl _ _ 31 rfl w.heap.size 3 i0 1 Try.underlying31 hi hz1 w.heap.size (done.length + xs1.length) (xs.length + ys.length) (nats done ++ nats xs1) rfl o1 bo1 ys1.length cb1 (nats ys1) rfl (by simp [nats_length]) (fun e => by have := HM.out.rb.empty e; have := HM.out.rb.le; omega) (HM.out.rb.kept hb1).news (nats_one _) (by omega) ?_)
      intro W2 o2 g2
      obtain ⟨q2, q3⟩ := HT.out W1 W2 o1 g1 o2 g2 HE.out
      clear o1 o2 g1 g2 hb1
      go_wp2
      simp only [Exit.jump]
      go_ret
      exact ⟨_, _, rfl, q2, q3⟩
    · by_cases hy0 : ys1.length = 0
      · have e1 : ((xs1.length : Int) == 0) = false := by rw [beq_eq_false_iff_ne]; omega
        have e2 : ((ys1.length : Int) == 0) = true := by rw [beq_iff_eq]; omega
        have HE : Hid (xs1 = [] ∨ ys1 = []) := Lib.hid (.inr (List.eq_nil_of_length_eq_zero hy0))
        clear hx0 hy0
        go_wp2_with (at_builtin; refine wpList_append_fits_any _ rfl _ _ 31 rfl w.heap.size 3 i0 1 Try.underlying31 hi hz1 w.heap.size done.length (xs.length + ys.length) (nats done) rfl HM.out.own ao1 xs1.length ca1 (nats xs1) rfl (by simp [nats_length]) (fun e => by have := HM.out.ra.empty e; have := HM.out.ra.le; omega) (HM.out.ra.kept HM.out.bel).news (nats_one _) (by omega) ?_)
        intro W1 o1 g1
        have hb1 := HM.out.bel.grown g1 hsz (fun _ e => by cases e; exact Nat.le_refl _)
        go_wp2_with (at_builtin; refine wpList_append_fits_any _ rfl _ _ 31 rfl w.heap.size 3 i0 1 Try.underlying31 hi hz1 w.heap.size (done.length + xs1.length) (xs.length + ys.length) (nats done ++ nats xs1) rfl o1 bo1 ys1.length cb1 (nats ys1) rfl (by simp [nats_length]) (fun e => by have := HM.out.rb.empty e; have := HM.out.rb.le; omega) (HM.out.rb.kept hb1).news (nats_one _) (by omega) ?_)
        intro W2 o2 g2
        obtain ⟨q2, q3⟩ := HT.out W1 W2 o1 g1 o2 g2 HE.out
        clear o1 o2 g1 g2 hb1
        go_wp2
        simp only [Exit.jump]
        go_ret
        exact ⟨_, _, rfl, q2, q3⟩
      · obtain ⟨x, xs2, rfl⟩ := List.exists_cons_of_length_pos (Nat.pos_of_ne_zero hx0)
        obtain ⟨y, ys2, rfl⟩ := List.exists_cons_of_length_pos (Nat.pos_of_ne_zero hy0)
        simp only [List.length_cons] at *
        obtain ⟨ga, oa, rfl, hga, hca⟩ := HM.out.ra.head
        obtain ⟨gb, ob, rfl, hgb, hcb⟩ := HM.out.rb.head
        have hca := (World.cell?_of_block (a := ⟨ga, oa, none⟩) (HM.out.bel.block ga hga)).trans hca
        have hcb := (World.cell?_of_block (a := ⟨gb, ob, none⟩) (HM.out.bel.block gb hgb)).trans hcb
        have e1 : ((xs2.length : Int) + 1 == 0) = false := by rw [beq_eq_false_iff_ne]; omega
        have e2 : ((ys2.length : Int) + 1 == 0) = false := by rw [beq_eq_false_iff_ne]; omega
        have hB : Below w0.heap.size w0 W := hb.trans (HM.out.bel.mono hb.size)
        have HB := Lib.hid hB
        have HL := Lib.hid hlen
        clear hB hx0 hy0 HT
        go_wp2_with fail
        go_region_held3 (fun w' => w'.cell? ⟨ga, oa, none⟩ = some (.int .i64 (x : Int)) ∧ w'.cell? ⟨gb, ob, none⟩ = some (.int .i64 (y : Int))) (go_keep) (first | (go_at_call 15; refine (HM.out.ta x (by simp) _ HB.out.drew).mono ?_; rintro e w' ⟨rfl, rfl⟩) | (go_at_call 15; refine (HM.out.tb y (by simp) _ HB.out.drew.drew).mono ?_; rintro e w' ⟨rfl, rfl⟩))
        obtain ⟨ao', hsl, ra'⟩ := HM.out.ra.tail
        obtain ⟨bo', hsr, rb'⟩ := HM.out.rb.tail
        have own' := HM.out.own.drew.drew.drew
        have bel' := HM.out.bel.drew.drew.drew
        have RA := Lib.hid ra'
        have RB := Lib.hid rb'
        clear ra' rb'
        by_cases hd : d x ≤ d y
        · have e3 : decide (d x ≤ d y) = true := decide_eq_true hd
          have HD := Lib.hid hd
          clear hd
          go_wp2_with fail
          go_region_law
            ((refine step_append_fits _ (by rfl) _ _ 31 (by rfl) w.heap.size 3 i0 1 Try.underlying31 hi hz1 w.heap.size done.length (xs.length + ys.length) (nats done) (by rfl) (own'.drew.alloc _) ⟨W.heap.size, 0, none⟩ 1 1 [.int .i64 (x : Int)] (by rfl) (by rfl) (cell_one_new _ _ _) (by simp [Value.oneCell']) (by omega) ?_
              intro W3 own3 g3))
          have hb3 : Below w.heap.size w W3 := (bel'.drew.alloc (by simpa using hsz) _).grown g3 (by simp; omega) (fun _ e => by cases e; exact Nat.le_refl _)
          have own4 : W3.ownsRow w.heap.size 3 1 (.slice (some ⟨w.heap.size, 0, none⟩) (done ++ [x]).length (xs.length + ys.length)) (done ++ [x]).length (nats (done ++ [x])) := by
            rw [nats_snoc, List.length_append, List.length_singleton]; exact own3
          have mid4 : Mid d f1 cp w0 w xs ys ao' (some ⟨gb, ob, none⟩) (ca1 - 1) cb1 xs2 (y :: ys2) (done ++ [x]) W3 := by
            refine ⟨RA.out, HM.out.rb, (fun i hi => HM.out.ta i (List.mem_cons_of_mem _ hi)), HM.out.tb, own4, hb3, ?_, by simp; omega⟩
            rw [← HM.out.all, mg_left d x y xs2 ys2 HD.out, List.append_assoc]; rfl
          have M4 := Lib.hid mid4
          clear own3 g3 hb3 own4 mid4 own' bel'
          go_wp2
          go_step3
          refine ⟨rfl, ⟨ao', some ⟨gb, ob, none⟩, ca1 - 1, cb1, xs2, y :: ys2, done ++ [x], M4.out, _, _, _, _, _, _, _, _, _, _, _, _, _, _, _, _, _, _, _, _, _, _, _, _, _, _, _, _, _, _, _, _, _, _, _, _, _, _, _, _, _, _, _, _, _, _, by rw [List.length_append, List.length_singleton]; rfl⟩, ?_⟩
          show xs2.length + (ys2.length + 1) < (xs2.length + 1) + (ys2.length + 1)
          omega
        · have e3 : decide (d x ≤ d y) = false := decide_eq_false hd
          have HD := Lib.hid hd
          clear hd
          go_wp2_with fail
          go_region_law
            ((refine step_append_fits _ (by rfl) _ _ 31 (by rfl) w.heap.size 3 i0 1 Try.underlying31 hi hz1 w.heap.size done.length (xs.length + ys.length) (nats done) (by rfl) (own'.drew.alloc _) ⟨W.heap.size, 0, none⟩ 1 1 [.int .i64 (y : Int)] (by rfl) (by rfl) (cell_one_new _ _ _) (by simp [Value.oneCell']) (by omega) ?_
              intro W3 own3 g3))
          have hb3 : Below w.heap.size w W3 := (bel'.drew.alloc (by simpa using hsz) _).grown g3 (by simp; omega) (fun _ e => by cases e; exact Nat.le_refl _)
          have own4 : W3.ownsRow w.heap.size 3 1 (.slice (some ⟨w.heap.size, 0, none⟩) (done ++ [y]).length (xs.length + ys.length)) (done ++ [y]).length (nats (done ++ [y])) := by
            rw [nats_snoc, List.length_append, List.length_singleton]; exact own3
          have mid4 : Mid d f1 cp w0 w xs ys (some ⟨ga, oa, none⟩) bo' ca1 (cb1 - 1) (x :: xs2) ys2 (done ++ [y]) W3 := by
            refine ⟨HM.out.ra, RB.out, HM.out.ta, (fun i hi => HM.out.tb i (List.mem_cons_of_mem _ hi)), own4, hb3, ?_, by simp; omega⟩
            rw [← HM.out.all, mg_right d x y xs2 ys2 HD.out, List.append_assoc]; rfl
          have M4 := Lib.hid mid4
          clear own3 g3 hb3 own4 mid4 own' bel'
          go_wp2
          go_step3
          refine ⟨rfl, ⟨some ⟨ga, oa, none⟩, bo', ca1, cb1 - 1, x :: xs2, ys2, done ++ [y], M4.out, _, _, _, _, _, _, _, _, _, _, _, _, _, _, _, _, _, _, _, _, _, _, _, _, _, _, _, _, _, _, _, _, _, _, _, _, _, _, _, _, _, _, _, _, _, _, by rw [List.length_append, List.length_singleton]; rfl⟩, ?_⟩
          show (xs2.length + 1) + ys2.length < (xs2.length + 1) + (ys2.length + 1)
          omega
  · intro again
    go_wp2_with (at_make; refine wpList_make_own _ rfl _ _ 31 rfl w.heap.size 3 i0 (.int .i64 0) 1 Try.underlying31 hi hz0 hz1 .i64 .i64 _ (xs.length + ys.length) rfl rfl (by omega) (by rw [hz2]; omega) (by unfold maxLen; omega) (Nat.le_refl _) ?_)
    intro w1 hown hg
    go_wp2_with fail
    go_step3
    rename_i hK
    refine hK _ _ (again _ _ ⟨ao, bo, ca, cb, xs, ys, [], ⟨ra, rb, h1, h2, hown, (Below.refl _ _).grown hg (Nat.le_refl _) (fun _ e => by cases e), rfl, by simp⟩, _, _, _, _, _, _, _, _, _, _, _, _, _, _, _, _, _, _, _, _, _, _, _, _, _, _, _, _, _, _, _, _, _, _, _, _, _, _, _, _, _, _, _, _, _, _, rfl⟩)
end Go.Proofs.Ytkjedffncphgmaa.Pl
