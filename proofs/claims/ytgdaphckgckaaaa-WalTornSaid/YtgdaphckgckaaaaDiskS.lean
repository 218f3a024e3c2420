/-
  A text's bytes put behind a row of bytes of the call's own: where the new row lies. Conditions: as each theorem says.
-/
import Derived.Test.YtgdaphckgckaaaaDiskE
import Derived.Lib.AppendStr
import Derived.RegionTactic
namespace Go.Proofs.Ytgdaphckgckaaaa.Dk
open Go.RowKit

section
variable {P : Program} (w : World)

theorem run_put_lies (base : Nat) (t u ty e : TypeId) (i : TypeInfo) (ht : P.underlying t = some (.slice e)) (hu : P.underlying u = some .string) (hi : P.info? e = some i) (hz : i.zero = some (.int .u8 0))
    (hsize : i.size = 1) (hby : i.bytes = 1) (v : Value) (n : Nat) (xs : List Value) (hown : w.ownsRow base e 1 v n xs) (s : ByteArray) (h0 : 0 < s.size)
    (h63 : n + s.size ≤ maxLen) (hbytes : n + s.size ≤ 140737488355328) (hbase : base ≤ w.heap.size) :
    ∃ g cap w', (Builtin.append_ #[t, u] ty #[v, .string s]).run P w = .ok (.slice (some ⟨g, 0, none⟩) (n + s.size) cap) w' ∧
      w'.ownsRow base e 1 (.slice (some ⟨g, 0, none⟩) (n + s.size) cap) (n + s.size) (xs ++ Lib.strCells s) ∧ w.grownBy w' v.ownBlock ∧ (v.ownBlock = some g ∨ g = w.heap.size) := by
  have hsmall : n + s.size ≤ 9223372036854775807 := by simp only [maxLen] at h63; omega
  obtain ⟨v', w', hr, ho, hg, _⟩ := Lib.run_append_own_string (P := P) w base t u ty e i ht hu hi hz hsize hby v n xs hown s h63 hbytes hbase
  obtain ⟨g, cap, rfl, _, _⟩ := ho.form (by omega)
  refine ⟨g, cap, w', hr, ho, hg, ?_⟩
  have key : ∀ (g2 : Nat) (l2 c2 : Nat) (w2 : World), (Builtin.append_ #[t, u] ty #[v, .string s]).run P w = .ok (.slice (some ⟨g2, 0, none⟩) l2 c2) w2 → g = g2 := by
    intro g2 l2 c2 w2 h2
    have h3 := hr.symm.trans h2
    injection h3 with h4 _
    injection h4 with h5 _ _
    injection h5 with h6
    injection h6
  rcases hown.2 with ⟨rfl, rfl⟩ | ⟨gg, c, cur, rfl, hbg, hgg, hnc, hcm, hcs, htake⟩
  · exact .inr (key _ _ _ _ (run_append_nil_string (P := P) w t u ty e i (.int .u8 0) ht hu hi hz s h0 (by omega) (by rw [hby]; omega)))
  · by_cases hroom : n + s.size ≤ c
    · left
      have := key _ _ _ _ (Lib.run_append_room_string (P := P) w t u ty e i ht hu hi hsize gg n c cur hgg s hroom (by omega))
      rw [this]; rfl
    · right
      have hxl : xs.length = n := by simpa using hown.1
      exact key _ _ _ _ (Lib.run_append_grow_string (P := P) w t u ty e i (.int .u8 0) ht hu hi hz ⟨gg, 0, none⟩ n c xs (by rw [hsize]; omega) (hown.cells (g := gg) rfl) s (by omega) (by omega) (by rw [hby]; exact growslice_fits (by omega) (by omega)))

/-- .. at a step of a region that draws its order -/
theorem step_put_lies {ops : Array Oper} {o : Oper} {a : Act} {K : Act → World → Prop} {Q : Exit → Act → World → Prop} {E : Prop} (hgd : o.guard = none) (sl x : Operand) (t u : TypeId)
    (ho : o.op = .call { callee := .builtin .append, args := #[sl, x], argTypes := #[t, u] })
    (base : Nat) (e : TypeId) (i : TypeInfo) (ht : P.underlying t = some (.slice e)) (hu : P.underlying u = some .string) (hi : P.info? e = some i) (hz : i.zero = some (.int .u8 0))
    (hsize : i.size = 1) (hby : i.bytes = 1) (v : Value) (n : Nat) (xs : List Value) (hs : a.eval sl = v) (hown : w.ownsRow base e 1 v n xs) (s : ByteArray) (hx : a.eval x = .string s) (h0 : 0 < s.size)
    (h63 : n + s.size ≤ maxLen) (hbytes : n + s.size ≤ 140737488355328) (hbase : base ≤ w.heap.size) (H : Nat) (hH : w.heap.size = H)
    (h : ∀ g cap w', w'.ownsRow base e 1 (.slice (some ⟨g, 0, none⟩) (n + s.size) cap) (n + s.size) (xs ++ Lib.strCells s) → w.grownBy w' v.ownBlock → (v.ownBlock = some g ∨ g = H) → K (a.put o.dst (.slice (some ⟨g, 0, none⟩) (n + s.size) cap)) w') :
    if Region.wanted o (yielded ops a.tmps) = true then Oper.wp P o a w K Q else E := by
  have hw : Region.wanted o (yielded ops a.tmps) = true := by simp [Region.wanted, hgd]
  rw [if_pos hw]
  obtain ⟨g, cap, w', hr, h2, h3, h4⟩ := run_put_lies (P := P) w base t u o.type e i ht hu hi hz hsize hby v n xs hown s h0 h63 hbytes hbase
  unfold Oper.wp execOp
  simp only [ho, resolve, invoke, builtin, Sem.run_bind, Sem.run_pure, Result.andThen_ok, List.map_toArray, List.map_cons, List.map_nil, hs, hx, hr]
  exact h g cap w' h2 h3 (by rw [← hH]; exact h4)
end

/-- a piece more on the list, with nothing in it yet -/
theorem Disk.more {B a n : Nat} {l : List UInt8} {sy ro : Nat} {h : Bool} {v : Value} {vs : List Value} {w w1 : World} {o : Obj} (D : Disk B a n l sy ro h v vs w) (hl : l.length ≤ 4096 * n) {p cap : Nat}
    (hown : w1.ownsRow B 59 1 (.slice (some ⟨p, 0, none⟩) (n + 1) cap) (n + 1) (vs ++ [.slice none 0 0])) (hg : (w.alloc o).grownBy w1 v.ownBlock) :
    Disk B a (n + 1) l sy ro h (.slice (some ⟨p, 0, none⟩) (n + 1) cap) (vs ++ [.slice none 0 0]) (w1.setCell ⟨a, 0, none⟩ (.slice (some ⟨p, 0, none⟩) (n + 1) cap)) ∧
    Far B w (w1.setCell ⟨a, 0, none⟩ (.slice (some ⟨p, 0, none⟩) (n + 1) cap)) := by
  have ha : w.grownBy (w.alloc o) v.ownBlock := World.grownBy_alloc w o _
  have hg' := grown_trans ha hg
  have hrow : ∀ b, v.ownBlock = some b → ∃ cs, w.heap[b]? = some (.cells cs 59 (0, 0)) := fun b hb => (own_block D.row hb).2
  have H1 := D.head.kept hg' D.row_ne
  have P1 := D.pieces.kept_other hg' fun b hb => by obtain ⟨cs, hcs⟩ := hrow b hb; exact ⟨cs, 59, _, hcs, by decide⟩
  have g2 := Lib.grownBy_setCell w1 a 0 (.slice (some ⟨p, 0, none⟩) (n + 1) cap)
  have H2 := H1.set0 (.slice (some ⟨p, 0, none⟩) (n + 1) cap)
  have P2 := P1.kept_other g2 fun b hb => by obtain rfl := Option.some.inj hb; exact ⟨_, 75, _, H1, by decide⟩
  have r2 := hown.kept g2 (.inr (own_ne hown H1 (by decide)))
  have s1 := hg'.size
  have s2 := g2.size
  have hB := D.heap
  have hvl : vs.length = n := by have := D.row.1; omega
  have F : Far B w (w1.setCell ⟨a, 0, none⟩ (.slice (some ⟨p, 0, none⟩) (n + 1) cap)) := by
    refine (Far.of_grown hg' hB ?_).trans (Far.of_grown g2 (by omega) ?_)
    · intro b hb
      obtain ⟨h5, cs, h6⟩ := own_block D.row hb
      exact ⟨h5, cs, 59, _, h6, .inr (.inl rfl)⟩
    · intro b hb; obtain rfl := Option.some.inj hb; exact ⟨D.base, _, 75, _, H1, .inr (.inr rfl)⟩
  refine ⟨⟨D.base, by omega, H2, r2, ?_, D.sy_le, D.len_le, D.ro_le, D.ro_pos⟩, F⟩
  have hlt : ∀ i, i < n → (vs ++ [.slice none 0 0])[i]? = vs[i]? := fun i hi => by rw [List.getElem?_append_left (by omega)]
  have hat : (vs ++ [.slice none 0 0])[n]? = some (.slice none 0 0) := by rw [List.getElem?_append_right (by omega), hvl, Nat.sub_self]; rfl
  refine ⟨fun i hi => ?_, fun i i' u u' hi hi' hne hq hq' => ?_⟩
  · by_cases e : i < n
    · rw [hlt i e]; exact P2.each i e
    · obtain rfl : i = n := by omega
      rw [hat, chunk_out l i hl]
      exact ⟨_, rfl, World.ownsRow_nil _ _ _ _⟩
  · by_cases e : i = n
    · rw [e, hat] at hq
      obtain rfl := Option.some.inj hq
      exact .inl rfl
    · rw [hlt i (by omega)] at hq
      by_cases e' : i' = n
      · rw [e', hat] at hq'
        obtain rfl := Option.some.inj hq'
        rcases ho : u.ownBlock with _ | b
        · exact .inl rfl
        · exact .inr (by simp [Value.ownBlock])
      · rw [hlt i' (by omega)] at hq'
        exact P2.apart i i' u u' (by omega) (by omega) hne hq hq'

/-- what is put behind the last piece -/
theorem Disk.filled {B a k : Nat} {l : List UInt8} {sy ro : Nat} {h : Bool} {p n cap : Nat} {u : Value} {vs : List Value} {w w1 : World} (D : Disk B a (k + 1) l sy ro h (.slice (some ⟨p, 0, none⟩) n cap) vs w) (hn : n = k + 1)
    (s : ByteArray) (hs : 0 < s.size) (hk : 4096 * k ≤ l.length) (hsz : l.length + s.size ≤ 4096 * (k + 1)) (hro : l.length + s.size ≤ ro) (hu : vs[k]? = some u) {g c : Nat}
    (hown : w1.ownsRow B 5 1 (.slice (some ⟨g, 0, none⟩) ((chunk l k).length + s.size) c) ((chunk l k).length + s.size) (Lib.byteCells (chunk l k) ++ Lib.strCells s)) (hg : w.grownBy w1 u.ownBlock) (hat : u.ownBlock = some g ∨ g = w.heap.size) :
    DiskAt B a (l ++ s.data.toList) sy ro h (((w1.setCell ⟨p, k, none⟩ (.slice (some ⟨g, 0, none⟩) ((chunk l k).length + s.size) c)).setCell ⟨a, 1, none⟩ (.int .i64 (l.length + s.size : Nat)))) ∧
    Far B w ((w1.setCell ⟨p, k, none⟩ (.slice (some ⟨g, 0, none⟩) ((chunk l k).length + s.size) c)).setCell ⟨a, 1, none⟩ (.int .i64 (l.length + s.size : Nat))) := by
  subst hn
  have hsl : s.data.toList.length = s.size := by rw [← Lib.size_eq]
  obtain ⟨u', hu', hou⟩ := D.pieces.each k (by omega)
  rw [hu] at hu'
  obtain rfl := Option.some.inj hu'
  -- the row that was put behind is one of bytes, or new
  have hrow : ∀ b, u.ownBlock = some b → B ≤ b ∧ ∃ cs, w.heap[b]? = some (.cells cs 5 (0, 0)) := fun b hb => own_block hou hb
  have hne : ∀ b cs t fz, w.heap[b]? = some (.cells cs t fz) → t ≠ 5 → some b ≠ u.ownBlock := fun b cs t fz h1 h2 e => own_ne hou h1 h2 e.symm
  have H1 := D.head.kept hg (hne _ _ _ _ D.head (by decide))
  have r0 := D.row
  have hpb : ∃ cs, w.heap[p]? = some (.cells cs 59 (0, 0)) := (own_block r0 (k := p) rfl).2
  have r1 := r0.kept hg (.inr (by obtain ⟨cs, hcs⟩ := hpb; exact fun e => hne _ _ _ _ hcs (by decide) e))
  have hpb1 : ∃ cs, w1.heap[p]? = some (.cells cs 59 (0, 0)) := (own_block r1 (k := p) rfl).2
  have hs1 := r1.stored k (.slice (some ⟨g, 0, none⟩) ((chunk l k).length + s.size) c)
  have hpa : p ≠ a := fun e => D.row_ne (by rw [e]; rfl)
  have H2 := H1.kept hs1.2 (by simp; exact fun e => hpa e.symm)
  have hvl : vs.length = k + 1 := by have := D.row.1; omega
  have o2 := hown.kept hs1.2 (by obtain ⟨cs, hcs⟩ := hpb1; exact .inr (own_ne hown hcs (by decide)))
  have hlt : ∀ i, i < k → (vs.set k (.slice (some ⟨g, 0, none⟩) ((chunk l k).length + s.size) c))[i]? = vs[i]? := fun i hi => by rw [List.getElem?_set_ne (by omega)]
  have hkk : (vs.set k (.slice (some ⟨g, 0, none⟩) ((chunk l k).length + s.size) c))[k]? = some (.slice (some ⟨g, 0, none⟩) ((chunk l k).length + s.size) c) := by rw [List.getElem?_set_self (by omega)]
  have P1 : ∀ i, i < k → ∃ x, vs[i]? = some x ∧ w1.ownsRow B 5 1 x (chunk l i).length (Lib.byteCells (chunk l i)) := fun i hi => by
    obtain ⟨x, h1, h2⟩ := D.pieces.each i (by omega)
    refine ⟨x, h1, h2.kept hg ?_⟩
    exact D.pieces.apart i k x u (by omega) (by omega) (by omega) h1 hu
  have P2 : ∀ i, i < k → ∃ x, vs[i]? = some x ∧ (w1.setCell ⟨p, k, none⟩ (.slice (some ⟨g, 0, none⟩) ((chunk l k).length + s.size) c)).ownsRow B 5 1 x (chunk l i).length (Lib.byteCells (chunk l i)) := fun i hi => by
    obtain ⟨x, h1, h2⟩ := P1 i hi
    exact ⟨x, h1, h2.kept hs1.2 (by obtain ⟨cs, hcs⟩ := hpb1; exact .inr (own_ne h2 hcs (by decide)))⟩
  have s0 := hg.size
  have s1 := hs1.2.size
  have hF1 := Far.of_grown hg D.heap fun b hb => ⟨(hrow b hb).1, by obtain ⟨cs, hcs⟩ := (hrow b hb).2; exact ⟨cs, 5, _, hcs, .inl rfl⟩⟩
  have hF2 := Far.of_grown hs1.2 (B := B) (by have := D.heap; omega) fun b hb => by obtain rfl := Option.some.inj hb; obtain ⟨cs, hcs⟩ := hpb1; exact ⟨(own_block r1 (k := p) rfl).1, cs, 59, _, hcs, .inr (.inl rfl)⟩
  have hlt2 : ∀ i x, i < k → vs[i]? = some x → x.ownBlock = none ∨ x.ownBlock ≠ some g := fun i x hi hx => by
    rcases hat with e | e
    · rw [← e]; exact D.pieces.apart i k x u (by omega) (by omega) (by omega) hx hu
    · obtain ⟨y, h1, h2⟩ := D.pieces.each i (by omega)
      rw [hx] at h1
      obtain rfl := Option.some.inj h1
      right
      intro e2
      obtain ⟨_, cs, hcs⟩ := own_block h2 e2
      have := heap_lt hcs
      omega
  generalize hW2 : w1.setCell ⟨p, k, none⟩ (.slice (some ⟨g, 0, none⟩) ((chunk l k).length + s.size) c) = W2 at *
  have g3 := Lib.grownBy_setCell W2 a 1 (.int .i64 (l.length + s.size : Nat))
  have H3 := H2.set1 (l.length + s.size)
  have s2 := g3.size
  have r3 := hs1.1.kept g3 (.inr (own_ne hs1.1 H2 (by decide)))
  have o3 := o2.kept g3 (.inr (own_ne o2 H2 (by decide)))
  have hF3 := Far.of_grown g3 (B := B) (by have := D.heap; omega) fun b hb => by obtain rfl := Option.some.inj hb; exact ⟨D.base, _, 75, _, H2, .inr (.inr rfl)⟩
  have hlen : (l ++ s.data.toList).length = l.length + s.size := by rw [List.length_append, hsl]
  have hpc : pcs (l ++ s.data.toList).length = k + 1 := by rw [hlen]; unfold pcs; omega
  refine ⟨⟨.slice (some ⟨p, 0, none⟩) (k + 1) cap, vs.set k (.slice (some ⟨g, 0, none⟩) ((chunk l k).length + s.size) c), D.base, by have := D.heap; omega, by rw [hlen]; exact H3, by rw [hpc]; exact r3, ?_, by rw [hlen]; have := D.sy_le; omega, by rw [hlen]; exact hro, D.ro_le, D.ro_pos⟩, (hF1.trans hF2).trans hF3⟩
  rw [hpc]
  refine ⟨fun i hi => ?_, fun i i' x x' hi hi' hne hq hq' => ?_⟩
  · by_cases e : i < k
    · rw [hlt i e, chunk_append_lt l _ i (by omega)]
      obtain ⟨x, h1, h2⟩ := P2 i e
      exact ⟨x, h1, h2.kept g3 (.inr (own_ne h2 H2 (by decide)))⟩
    · obtain rfl : i = k := by omega
      rw [hkk, chunk_append_last l _ i hk (by omega)]
      refine ⟨_, rfl, ?_⟩
      rw [List.length_append, hsl, Lib.byteCells_append, ← Lib.strCells_eq]
      exact o3
  · by_cases e : i = k
    · rw [e, hkk] at hq
      obtain rfl := Option.some.inj hq
      rw [hlt i' (by omega)] at hq'
      rcases hlt2 i' x' (by omega) hq' with h1 | h1
      · exact .inr (by rw [h1]; simp [Value.ownBlock])
      · exact .inr (fun h2 => h1 (by rw [← h2]; rfl))
    · rw [hlt i (by omega)] at hq
      by_cases e' : i' = k
      · rw [e', hkk] at hq'
        obtain rfl := Option.some.inj hq'
        exact hlt2 i x (by omega) hq
      · rw [hlt i' (by omega)] at hq'
        exact D.pieces.apart i i' x x' (by omega) (by omega) hne hq hq'

end Go.Proofs.Ytgdaphckgckaaaa.Dk
