/-
  Contracts: Join: two sets side by side. Conditions: as each theorem says.
-/
import Derived.Test.YtkemljpjfbmjgaaDoorDepsO
import Derived.Test.YtkemljpjfbmjgaaDoorDepsN
import Derived.ScopeJumps
import Derived.OwnWalk
import Derived.Deep.Onto
import Derived.Deep.RegionHeld3
import Derived.Deep.RegionLaw
import Derived.Deep.AppendLies
namespace Go.Proofs.YtkemljpjfbmjgaaDoor.Dp
open Go.RowKit

section
variable {P : Program}
/-- append within the room, at a step of a region that draws its order -/
theorem step_fits {w : World} {ops : Array Oper} {o : Oper} {a : Act} {K : Act → World → Prop} {Q : Exit → Act → World → Prop} {E : Prop} (hgd : o.guard = none) (s x : Operand) (t : TypeId)
    (ho : o.op = .call { callee := .builtin .append, args := #[s, x], argTypes := #[t, t] })
    (base : Nat) (e : TypeId) (i : TypeInfo) (size : Nat) (ht : P.underlying t = some (.slice e)) (hi : P.info? e = some i) (hsize : i.size = size)
    (g n cap : Nat) (xs : List Value) (hs : a.eval s = .slice (some ⟨g, 0, none⟩) n cap) (hown : w.ownsRow base e size (.slice (some ⟨g, 0, none⟩) n cap) n xs)
    (ad : Addr) (m c : Nat) (news : List Value) (hx : a.eval x = .slice (some ad) m c) (hl : news.length = m * size) (hnews : ∀ j u, news[j]? = some u → w.cell? (ad.add j) = some u) (h1 : ∀ u ∈ news, u.oneCell' = true)
    (hroom : n + m ≤ cap)
    (h : ∀ w', w'.ownsRow base e size (.slice (some ⟨g, 0, none⟩) (n + m) cap) (n + m) (xs ++ news) → w.grownBy w' (some g) → K (a.put o.dst (.slice (some ⟨g, 0, none⟩) (n + m) cap)) w') :
    if Region.wanted o (yielded ops a.tmps) = true then Oper.wp P o a w K Q else E := by
  have hw : Region.wanted o (yielded ops a.tmps) = true := by simp [Region.wanted, hgd]
  rw [if_pos hw]
  obtain ⟨w', hr, h2, h3⟩ := run_append_fits (P := P) w base t o.type e i size ht hi hsize g n cap xs hown ad m c news hl hnews h1 hroom
  unfold Oper.wp execOp
  simp only [ho, resolve, invoke, builtin, Sem.run_bind, Sem.run_pure, Result.andThen_ok, List.map_toArray, List.map_cons, List.map_nil, hs, hx, hr]
  exact h w' h2 h3

/-- as Q; by a goto to one of two labels: what is said of that one -/
def jump2 (l1 l2 : Nat) (J1 J2 : Act → World → Prop) (Q : Exit → Act → World → Prop) : Exit → Act → World → Prop
  | .goto l', a, w => (l' = l1 ∧ J1 a w) ∨ (l' = l2 ∧ J2 a w)
  | e, a, w => Q e a w
/-- a scope with a label to go back to and one to go ahead to, once -/
theorem scope_two {c r1 r2 : Code} {Q : Exit → Act → World → Prop} {a : Act} {w : World} (l1 l2 : Nat) (hl : l1 ≠ l2) (J1 J2 : Act → World → Prop) (μ : Act → World → Nat) (hf1 : findLabel c l1 = some (Code.skip.seq r1)) (hf2 : findLabel c l2 = some r2)
    (tail : ∀ a w, J2 a w → r2.wp P (Exit.noGoto Q) a w)
    (pass : ∀ a w, J1 a w → r1.wp P (jump2 l1 l2 (fun a' w' => J1 a' w' ∧ μ a' w' < μ a w) J2 Q) a w)
    (first : (∀ a w, J1 a w → r1.wp P (jump2 l1 l2 J1 J2 Q) a w) → c.wp P (jump2 l1 l2 J1 J2 Q) a w) : (Code.scope c).wp P Q a w := by
  have hfirst := first fun a w h => Code.wp_mono (fun e a w h => by
    cases e with
    | goto l' => exact h.imp (fun h => ⟨h.1, h.2.1⟩) id
    | _ => exact h) (pass a w h)
  intro b k cs
  have hg1 : gotoIn l1 (.inScope c :: k) = some (.code (Code.skip.seq r1) :: .inScope c :: k) := by simp [gotoIn, hf1]
  have hg2 : gotoIn l2 (.inScope c :: k) = some (.code r2 :: .inScope c :: k) := by simp [gotoIn, hf2]
  have two : ∀ a w, J2 a w → ∃ e a' w', Q e a' w' ∧ Arrives P (lone (b.at a (.code r2 :: .inScope c :: k)) cs w) b k cs e a' w' := by
    intro a w hJ
    obtain ⟨e, a₁, w₁, hq, harr⟩ := tail a w hJ b (.inScope c :: k) cs
    cases e with
    | normal => exact ⟨.normal, a₁, w₁, hq, Steps.trans harr (.one step_inScope)⟩
    | exit id => exact ⟨.exit id, a₁, w₁, hq, fun k' hk => harr k' (by simp [exitTo, hk])⟩
    | goto l' => exact hq.elim
    | ret => exact ⟨_, a₁, w₁, hq, harr⟩
    | panic ch => exact ⟨_, a₁, w₁, hq, harr⟩
    | outgrown => exact ⟨_, a₁, w₁, hq, harr⟩
  have key : ∀ n a w, μ a w = n → J1 a w → ∃ e a' w', Q e a' w' ∧ Arrives P (lone (b.at a (.code (Code.skip.seq r1) :: .inScope c :: k)) cs w) b k cs e a' w' := by
    intro n
    induction n using Nat.strongRecOn with
    | _ n ih =>
      intro a w hn hJ
      obtain ⟨e, a₁, w₁, hq, harr⟩ := (wp_seq (wp_skip (pass a w hJ))) b (.inScope c :: k) cs
      cases e with
      | normal => exact ⟨.normal, a₁, w₁, hq, Steps.trans harr (.one step_inScope)⟩
      | exit id => exact ⟨.exit id, a₁, w₁, hq, fun k' hk => harr k' (by simp [exitTo, hk])⟩
      | goto l' =>
        rcases hq with ⟨rfl, hJ', hlt⟩ | ⟨rfl, hJ'⟩
        · obtain ⟨e₂, a₂, w₂, hq₂, harr₂⟩ := ih _ (by omega) a₁ w₁ rfl hJ'
          exact ⟨e₂, a₂, w₂, hq₂, .of_steps (harr _ hg1) harr₂⟩
        · obtain ⟨e₂, a₂, w₂, hq₂, harr₂⟩ := two a₁ w₁ hJ'
          exact ⟨e₂, a₂, w₂, hq₂, .of_steps (harr _ hg2) harr₂⟩
      | ret => exact ⟨_, a₁, w₁, hq, harr⟩
      | panic ch => exact ⟨_, a₁, w₁, hq, harr⟩
      | outgrown => exact ⟨_, a₁, w₁, hq, harr⟩
  obtain ⟨e, a₁, w₁, hq, harr⟩ := hfirst b (.inScope c :: k) cs
  cases e with
  | normal => exact ⟨.normal, a₁, w₁, hq, .head step_scope (Steps.trans harr (.one step_inScope))⟩
  | exit id => exact ⟨.exit id, a₁, w₁, hq, fun k' hk => .head step_scope (harr k' (by simp [exitTo, hk]))⟩
  | goto l' =>
    rcases hq with ⟨rfl, hJ'⟩ | ⟨rfl, hJ'⟩
    · obtain ⟨e₂, a₂, w₂, hq₂, harr₂⟩ := key _ a₁ w₁ rfl hJ'
      exact ⟨e₂, a₂, w₂, hq₂, .of_steps (.head step_scope (harr _ hg1)) harr₂⟩
    · obtain ⟨e₂, a₂, w₂, hq₂, harr₂⟩ := two a₁ w₁ hJ'
      exact ⟨e₂, a₂, w₂, hq₂, .of_steps (.head step_scope (harr _ hg2)) harr₂⟩
  | ret => exact ⟨_, a₁, w₁, hq, .of_steps (.one step_scope) harr⟩
  | panic ch => exact ⟨_, a₁, w₁, hq, .of_steps (.one step_scope) harr⟩
  | outgrown => exact ⟨_, a₁, w₁, hq, .of_steps (.one step_scope) harr⟩
end

/-- a slice of pairs that a call has made: nothing is nil -/
structure Idz (w : World) (ao : Option Addr) (cap : Nat) (xs : List ID) : Prop extends Ids w ao cap xs where
  empty : ao = none → cap = 0
theorem Idz.kept {w w' : World} {ao : Option Addr} {cap : Nat} {xs : List ID} (h : Idz w ao cap xs) (hb : Below w.heap.size w w') : Idz w' ao cap xs := ⟨h.toIds.kept hb, h.empty⟩
theorem Idz.own {w : World} {B : Nat} {t : TypeId} {v : Value} {xs : List ID} (h : w.ownsRow B t 2 v xs.length (cellsD xs)) : ∃ ao cap, v = .slice ao xs.length cap ∧ Idz w ao cap xs := by
  have h' := h
  rcases h.2 with ⟨rfl, h0⟩ | ⟨g, cap, cur, rfl, hb, hg, hn, hc, _⟩
  · exact ⟨none, 0, by rw [h0], ⟨⟨by omega, Nat.zero_le _, fun j hj => absurd hj (by omega)⟩, fun _ => rfl⟩⟩
  · refine ⟨_, _, rfl, ⟨⟨hn, hc, fun j hj => ⟨⟨g, 0, none⟩, rfl, (Array.getElem?_eq_some_iff.1 hg).1, ?_, ?_⟩⟩, fun e => by cases e⟩⟩
    · rw [Addr.add_lit, Nat.zero_add, h'.cellAt (j * 2) (by omega)]
      exact cellsD_0 xs j hj
    · rw [Addr.add_lit, Nat.zero_add, h'.cellAt (j * 2 + 1) (by omega)]
      exact cellsD_1 xs j hj
theorem add_add (x : Addr) (a b : Nat) : (x.add a).add b = x.add (a + b) := by
  unfold Addr.add
  by_cases h : a = 0
  · subst h; simp
  · by_cases h2 : b = 0
    · subst h2; simp [h]
    · simp [h, h2, Nat.add_assoc]
theorem Idz.head {w : World} {ao : Option Addr} {cap : Nat} {p q : Int} {xs : List ID} (h : Idz w ao cap ((p, q) :: xs)) : ∃ x : Addr, ao = some x ∧ x.block < w.heap.size ∧ w.cell? x = some (.int .i64 p) ∧ w.cell? ⟨x.block, x.off + 1, none⟩ = some (.int .i64 q) := by
  obtain ⟨x, e, hx, h0, h1⟩ := h.lies 0 (by simp)
  refine ⟨x, e, hx, by simpa [Addr.add] using h0, ?_⟩
  have := add_next x 0
  simp only [Addr.add, if_pos] at this
  rw [this]
  simpa [Addr.add] using h1
set_option maxRecDepth 100000 in
/-- l[1:] -/
theorem Idz.tail {w : World} {ao : Option Addr} {cap : Nat} {x : ID} {xs : List ID} (h : Idz w ao cap (x :: xs)) :
    ∃ ao', (∀ W : World, (Instr.slice 23 (.slice ao (xs.length + 1) cap) (some (.int .i64 1)) none none).run Tryd.prog W = .ok (.slice ao' xs.length (cap - 1)) W) ∧ ∀ W, Below w.heap.size w W → Idz W ao' (cap - 1) xs := by
  refine ⟨if cap = 1 then ao else ao.map (·.add (1 * 2)), fun W => ?_, fun W hW => ?_⟩
  · rw [run_slice_l W 23 ao (xs.length + 1) cap Tryd.underlying23 .i64 1 (by omega) (by have := h.le; simp at this; omega)]
    obtain ⟨i0, hi, hz0, hz1, hz2⟩ := info_parts (P := Tryd.prog) (e := 58) (z := .agg #[.int .i64 0, .int .i64 0]) (size := 2) (bytes := 16) (by kernel_rfl)
    have he : Tryd.prog.elem 23 = 58 := by kernel_rfl
    rw [he]
    simp [sizeOf, typeInfo, hi, hz1, Result.andThen, sliced]
  · have h := h.kept hW
    have hle := h.le
    simp only [List.length_cons] at hle
    refine ⟨⟨by omega, by have := h.capl; omega, fun j hj => ?_⟩, fun e => ?_⟩
    · rw [if_neg (by omega)]
      obtain ⟨y, e, hy, h0, h1⟩ := h.lies (j + 1) (by simp; omega)
      refine ⟨y.add 2, by rw [e]; rfl, by rw [block_of_add]; exact hy, ?_, ?_⟩
      · rw [add_add, show 2 + j * 2 = (j + 1) * 2 by omega]; exact h0
      · rw [add_add, show 2 + (j * 2 + 1) = (j + 1) * 2 + 1 by omega]; exact h1
    · by_cases hc : cap = 1
      · omega
      · rw [if_neg hc] at e
        have := h.empty (by cases ao <;> simp_all)
        omega
theorem Ids.news {w : World} {ao : Option Addr} {cap : Nat} {xs : List ID} (h : Ids w ao cap xs) : ∀ ad, ao = some ad → ∀ j u, (cellsD xs)[j]? = some u → w.cell? (ad.add j) = some u := by
  intro ad e j u hu
  have hj : j < xs.length * 2 := by
    have := (List.getElem?_eq_some_iff.1 hu).1
    rwa [cellsD_length] at this
  obtain ⟨x, e', hx, h0, h1⟩ := h.lies (j / 2) (by omega)
  rw [e] at e'
  obtain rfl := Option.some.inj e'
  rcases Nat.mod_two_eq_zero_or_one j with hm | hm
  · rw [show j / 2 * 2 = j by omega] at h0
    rw [h0, ← hu]
    have := cellsD_0 xs (j / 2) (by omega)
    rw [show j / 2 * 2 = j by omega] at this
    exact this.symm
  · rw [show j / 2 * 2 + 1 = j by omega] at h1
    rw [h1, ← hu]
    have := cellsD_1 xs (j / 2) (by omega)
    rw [show j / 2 * 2 + 1 = j by omega] at this
    exact this.symm
theorem cellsD_one : ∀ (xs : List ID), ∀ u ∈ cellsD xs, u.oneCell' = true
  | [], _, h => by cases h
  | x :: xs, u, h => by
    rw [cellsD] at h
    rcases List.mem_cons.1 h with rfl | h
    · rfl
    · rcases List.mem_cons.1 h with rfl | h
      · rfl
      · exact cellsD_one xs u h
/-- how long a slice is -/
def lenV : Value → Nat
  | .slice _ n _ => n
  | _ => 0
theorem row_over {w w1 : World} {B : Nat} {t : TypeId} {k : Nat} {u : Value} {m : Nat} {xs : List Value} (h : w.ownsRow B t k u m xs) (hb : Below w.heap.size w w1) : w1.ownsRow B t k u m xs := by
  refine ⟨h.1, ?_⟩
  rcases h.2 with h2 | ⟨g, cap, cur, rfl, hB, hg, hr⟩
  · exact .inl h2
  · exact .inr ⟨g, cap, cur, rfl, hB, (hb.block g (Array.getElem?_eq_some_iff.1 hg).1).trans hg, hr⟩
theorem news_two (W : World) (x y : Value) (t : TypeId) : ∀ j u, [x, y][j]? = some u → (W.alloc (.cells #[x, y] t)).cell? ((⟨W.heap.size, 0, none⟩ : Addr).add j) = some u :=
  World.news_of_block (cs := #[x, y]) (t := t) (fr := (0, 0)) (heap_alloc_new W _)

end Go.Proofs.YtkemljpjfbmjgaaDoor.Dp
