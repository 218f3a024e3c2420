/-
  A log in memory: its struct, its row of records; that they are kept while other blocks turn. Contracts: Open, Synced, Sync, Records. Conditions: a disk as DiskAt says, a log as LogIn says.
-/
import Derived.Test.YtgdaphckgckaaaaWalS
import Derived.Test.YtgdaphckgckaaaaDiskC
import Derived.Lib.SliceRun
import Derived.Deep.RegionLaw
namespace Go.Proofs.Ytgdaphckgckaaaa.Wl
open Go.RowKit
set_option maxRecDepth 100000
open Dk (DiskAt Far heap_lt)

/-- the struct of a log, in block a -/
def LogHead (w : World) (a d : Nat) (v : Value) (n : Nat) : Prop :=
  w.heap[a]? = some (.cells #[.pointer (some ⟨d, 0, none⟩), v, .int .i64 n] 79 (0, 0))

/-- .. with its records, n of them synced -/
structure LogIn (B a d : Nat) (v : Value) (rs : List ByteArray) (n : Nat) (w : World) : Prop where
  base : B ≤ a
  heap : B ≤ w.heap.size
  head : LogHead w a d v n
  row : w.ownsRow B 9 1 v rs.length (strs rs)

/-- blocks below B are as they were; so are all that are no part of a disk, nor of this log -/
structure FarL (B a : Nat) (v : Value) (w w' : World) : Prop where
  below : Below B w w'
  kept : ∀ (k : Nat) (cs : Array Value) (t : TypeId) (fz : Nat × Nat), w.heap[k]? = some (.cells cs t fz) → t ≠ 5 → t ≠ 59 → t ≠ 75 → k ≠ a → some k ≠ v.ownBlock → w'.heap[k]? = some (.cells cs t fz)

section
variable {B a d n : Nat} {v v' : Value} {rs : List ByteArray} {w w1 w2 : World}

theorem FarL.refl (B a : Nat) (v : Value) (w : World) : FarL B a v w w := ⟨Below.refl B w, fun _ _ _ _ h _ _ _ _ _ => h⟩
theorem FarL.of_far {C : Nat} (h : Far C w w1) (hC : B ≤ C) : FarL B a v w w1 := ⟨h.below.mono hC, fun k cs t fz h1 a b c _ _ => h.kept k cs t fz h1 a b c⟩
theorem FarL.of_below (h : Below w.heap.size w w1) (hB : B ≤ w.heap.size) : FarL B a v w w1 := .of_far (Far.of_below h hB) (Nat.le_refl _)
theorem FarL.size (h : FarL B a v w w1) : w.heap.size ≤ w1.heap.size := h.below.size
theorem FarL.mono {C : Nat} (h : FarL C a v w w1) (hC : B ≤ C) : FarL B a v w w1 := ⟨h.below.mono hC, h.kept⟩
/-- a store into the log's struct -/
theorem FarL.store {n : Nat} (k : w.heap[a]? = some (.cells #[.pointer (some ⟨d, 0, none⟩), v', .int .i64 n] 79 (0, 0))) (hB : B ≤ a) (i : Nat) (u : Value) : FarL B a v w (w.setCell ⟨a, i, none⟩ u) :=
  ⟨(Below.refl B w).grown (Lib.grownBy_setCell w a i u) (Nat.le_of_lt (Nat.lt_of_le_of_lt hB (heap_lt k))) (fun b hb => by obtain rfl := Option.some.inj hb; exact hB), fun j cs t fz h1 _ _ _ hne _ => ((Lib.grownBy_setCell w a i u).block j (heap_lt h1) (fun e => hne (Option.some.inj e))).trans h1⟩
theorem FarL.trans (h : FarL B a v w w1) (k : FarL B a v' w1 w2) (hv : ∀ g, v'.ownBlock = some g → v.ownBlock = some g ∨ w.heap.size ≤ g) : FarL B a v w w2 :=
  ⟨h.below.trans k.below, fun i cs t fz h1 p q r s u => k.kept i cs t fz (h.kept i cs t fz h1 p q r s u) p q r s fun e => by
    rcases hv i e.symm with e1 | e1
    · exact u e1.symm
    · have := heap_lt h1; omega⟩
theorem FarL.then_same (h : FarL B a v w w1) (k : FarL B a v w1 w2) : FarL B a v w w2 := h.trans k fun _ e => .inl e

theorem LogHead.lt (k : LogHead w a d v n) : a < w.heap.size := heap_lt k
theorem LogHead.cells (k : LogHead w a d v n) : w.cell? ⟨a, 0, none⟩ = some (.pointer (some ⟨d, 0, none⟩)) ∧ w.cell? ⟨a, 1, none⟩ = some v ∧ w.cell? ⟨a, 2, none⟩ = some (.int .i64 n) := by
  refine ⟨?_, ?_, ?_⟩ <;> (rw [Lib.cell_of_heap k]; rfl)
theorem LogHead.free (k : LogHead w a d v n) (i : Nat) : w.frozen? ⟨a, i, none⟩ = false := Lib.frozen_of_heap k i
theorem LogHead.set1 (k : LogHead w a d v n) (u : Value) : LogHead (w.setCell ⟨a, 1, none⟩ u) a d u n := Lib.heap_setCell_same (i := 1) k u
theorem LogHead.set2 (k : LogHead w a d v n) (u : Nat) : LogHead (w.setCell ⟨a, 2, none⟩ (.int .i64 u)) a d v u := Lib.heap_setCell_same (i := 2) k _
theorem LogHead.far (k : LogHead w a d v n) (hF : Far B w w1) : LogHead w1 a d v n := hF.kept a _ 79 _ k (by decide) (by decide) (by decide)

/-- a row of texts is kept by whatever leaves its block alone -/
theorem row_kept {B : Nat} {u : Value} {m : Nat} {xs : List Value} (h : w.ownsRow B 9 1 u m xs) (hk : ∀ (k : Nat) (cs : Array Value), u.ownBlock = some k → w.heap[k]? = some (.cells cs 9 (0, 0)) → w1.heap[k]? = some (.cells cs 9 (0, 0))) : w1.ownsRow B 9 1 u m xs := by
  obtain ⟨h1, h2⟩ := h
  refine ⟨h1, ?_⟩
  rcases h2 with h2 | ⟨g, cap, cur, rfl, hb, hg, hr⟩
  · exact .inl h2
  · exact .inr ⟨g, cap, cur, rfl, hb, hk g cur rfl hg, hr⟩

theorem row_far {C : Nat} {u : Value} {m : Nat} {xs : List Value} (h : w.ownsRow C 9 1 u m xs) (hF : Far B w w1) : w1.ownsRow C 9 1 u m xs :=
  row_kept h fun k cs _ hc => hF.kept k cs 9 _ hc (by decide) (by decide) (by decide)
theorem row_below {C : Nat} {u : Value} {m : Nat} {xs : List Value} (h : w.ownsRow C 9 1 u m xs) (hb : Below w.heap.size w w1) : w1.ownsRow C 9 1 u m xs :=
  row_kept h fun k _ _ hc => (hb.block k (heap_lt hc)).trans hc

theorem LogIn.far {C : Nat} (L : LogIn B a d v rs n w) (hF : Far C w w1) : LogIn B a d v rs n w1 :=
  ⟨L.base, Nat.le_trans L.heap hF.below.size, L.head.far hF, row_far L.row hF⟩
theorem LogIn.below (L : LogIn B a d v rs n w) (hb : Below w.heap.size w w1) : LogIn B a d v rs n w1 :=
  ⟨L.base, Nat.le_trans L.heap hb.size, (hb.block a L.head.lt).trans L.head, row_below L.row hb⟩
theorem LogIn.drew (L : LogIn B a d v rs n w) : LogIn B a d v rs n w.drew := L.below (Below.refl _ _).drew
theorem LogIn.row_ne (L : LogIn B a d v rs n w) : some a ≠ v.ownBlock := fun e => Dk.own_ne L.row L.head (by decide) e.symm

/-- .. by what is done to another log -/
theorem LogIn.farL {C a' : Nat} (L : LogIn B a d v rs n w) (hF : FarL C a' v' w w1) (h1 : a ≠ a') (h2 : some a ≠ v'.ownBlock) (h3 : ∀ k, v.ownBlock = some k → some k ≠ v'.ownBlock ∧ k ≠ a') : LogIn B a d v rs n w1 :=
  ⟨L.base, Nat.le_trans L.heap hF.size, hF.kept a _ 79 _ L.head (by decide) (by decide) (by decide) h1 h2,
    row_kept L.row fun k cs hk hc => hF.kept k cs 9 _ hc (by decide) (by decide) (by decide) (h3 k hk).2 (h3 k hk).1⟩

theorem synced_any (L : LogIn B a d v rs n w) : Calls Try.prog 29 #[.pointer (some ⟨a, 0, none⟩)] w fun e w' => e = .returned (.int .i64 n) ∧ w = w' := by
  obtain ⟨c0, c1, c2⟩ := L.head.cells
  go_enter Try.func29, Try.ntmps29
  go_wp2
  go_ret
  exact ⟨rfl, rfl⟩

end

/-- a store into the struct, not of the row -/
theorem LogIn.store2 {B a d n : Nat} {v : Value} {rs : List ByteArray} {w : World} (L : LogIn B a d v rs n w) (u : Nat) : LogIn B a d v rs u (w.setCell ⟨a, 2, none⟩ (.int .i64 u)) :=
  ⟨L.base, Nat.le_trans L.heap (Lib.grownBy_setCell w a 2 _).size, L.head.set2 u, row_kept L.row fun k cs hk hc => ((Lib.grownBy_setCell w a 2 _).block k (heap_lt hc) (fun e => L.row_ne (by rw [hk, ← e]))).trans hc⟩

theorem disk_log {a b d n : Nat} {v : Value} {l : List UInt8} {sy ro : Nat} {h : Bool} {w : World} (D : DiskAt b d l sy ro h w) (k : LogHead w a d v n) (i : Nat) (u : Value) : DiskAt b d l sy ro h (w.setCell ⟨a, i, none⟩ u) :=
  D.kept (Lib.grownBy_setCell w a i u) fun j hj => by obtain rfl := Option.some.inj hj; exact ⟨_, 79, _, k, by decide, by decide, by decide⟩

set_option maxRecDepth 100000 in
theorem sync_any {B a b d n : Nat} {v : Value} {rs : List ByteArray} {l : List UInt8} {sy ro : Nat} {h : Bool} {w : World} (D : DiskAt b d l sy ro h w) (L : LogIn B a d v rs n w) (hB : B ≤ b) :
    Calls Try.prog 22 #[.pointer (some ⟨a, 0, none⟩)] w fun e w' => e = .returned (.int .i64 0) ∧ DiskAt b d l (Dk.syncs h l.length sy) ro h w' ∧ LogIn B a d v rs rs.length w' ∧ FarL B a v w w' := by
  obtain ⟨c0, c1, c2⟩ := L.head.cells
  obtain ⟨ao, cap, rfl⟩ := Dk.own_form L.row
  go_enter Try.func22, Try.ntmps22
  go_wp2_with fail
  refine (Dk.sync_any D).mono ?_
  rintro e w1 ⟨rfl, D1, F1⟩
  have L1 := L.far F1
  obtain ⟨d0, d1, d2⟩ := L1.head.cells
  have f2 := L1.head.free 2
  have D2 := disk_log D1 L1.head 2 (.int .i64 rs.length)
  have L2 := L1.store2 rs.length
  have F2 := (FarL.of_far (a := a) (v := .slice ao rs.length cap) F1 hB).then_same (FarL.store (v := .slice ao rs.length cap) L1.head L1.base 2 (.int .i64 rs.length))
  clear D D1 L L1 c0 c1 c2
  go_wp2
  go_ret
  exact ⟨rfl, D2, L2, F2⟩

/-- slices.Clone of texts -/
theorem clone_any {B : Nat} {v : Value} {rs : List ByteArray} {w : World} (hown : w.ownsRow B 9 1 v rs.length (strs rs)) (hn : rs.length ≤ 1099511627776) :
    Calls Try.prog 46 #[v] w fun e w' => ∃ u, e = .returned u ∧ w'.ownsRow w.heap.size 9 1 u rs.length (strs rs) ∧ Below w.heap.size w w' := by
  obtain ⟨i0, hi, hz0, hz1, hz2⟩ := info_parts (P := Try.prog) (e := 9) (z := .string ⟨#[]⟩) (size := 1) (bytes := 16) (by kernel_rfl)
  have q22 : ∀ (w : World) (a : Option Addr) (n c n' c' : Nat), (binOp .eql 22 (.slice a n c) (.slice none n' c')).run Try.prog w = .ok (.bool a.isNone) w := fun w a n c n' c' => Lib.run_eql_slice_nil w _ _ a n c n' c' Try.underlying22
  rcases hown.2 with ⟨rfl, h0⟩ | ⟨g, cap, cur, rfl, hb, hg, hr⟩
  · obtain rfl : rs = [] := List.eq_nil_of_length_eq_zero h0
    go_enter Try.func46, Try.ntmps46
    go_wp2
    go_ret
    exact ⟨.slice none 0 0, rfl, World.ownsRow_nil _ _ _ _, Below.refl _ _⟩
  · have hcells := hown.cells (g := g) rfl
    have hgl := heap_lt hg
    have hempty : (w.alloc (.cells #[] 9)).ownsRow w.heap.size 9 1 (.slice (some ⟨w.heap.size, 0, none⟩) 0 0) 0 [] :=
      ⟨rfl, .inr ⟨w.heap.size, 0, #[], rfl, Nat.le_refl _, heap_alloc_new w _, Nat.le_refl _, Nat.zero_le _, rfl, rfl⟩⟩
    have hnews : ∀ j u, (strs rs)[j]? = some u → (w.alloc (.cells #[] 9)).cell? ((⟨g, 0, none⟩ : Addr).add j) = some u := fun j u hu => by
      rw [World.cell?_of_block (a := (⟨g, 0, none⟩ : Addr).add j) (w := w) (Below.heap_alloc w _ _ (by unfold Addr.add; split <;> exact hgl))]
      exact hcells j u hu
    have hone : ∀ u ∈ strs rs, u.oneCell' = true := fun u hu => by
      obtain ⟨x, _, rfl⟩ := List.mem_map.1 hu
      rfl
    have hsl := strs_length rs
    have hba : Below w.heap.size w (w.alloc (.cells #[] 9)) := (Below.refl _ _).alloc (Nat.le_refl _) _
    clear hcells hr hown hg hb
    go_enter Try.func46, Try.ntmps46
    go_wp2_with (at_builtin; refine wpList_append_own _ rfl _ _ 22 rfl w.heap.size 9 i0 (.string ⟨#[]⟩) 1 16 Try.underlying22 hi hz0 hz1 hz2 rfl (by decide) _ _ _ rfl hempty ⟨g, 0, none⟩ rs.length cap (strs rs) rfl (by omega) hnews hone ?c3 ?c4 ?c5 ?_)
    case c3 => unfold maxLen; omega
    case c4 => omega
    case c5 => simp
    intro u w2 hown2 hgrow2 _
    have hb2 := hba.grown hgrow2 (by simp) (fun k hk => by simp [Value.ownBlock] at hk; omega)
    go_wp2
    go_ret
    exact ⟨u, rfl, hown2, hb2⟩

set_option maxRecDepth 100000 in
theorem records_any {B a d n : Nat} {v : Value} {rs : List ByteArray} {w : World} (L : LogIn B a d v rs n w) (hn : rs.length ≤ 1099511627776) :
    Calls Try.prog 28 #[.pointer (some ⟨a, 0, none⟩)] w fun e w' => ∃ u, e = .returned u ∧ w'.ownsRow w.heap.size 9 1 u rs.length (strs rs) ∧ Below w.heap.size w w' := by
  obtain ⟨c0, c1, c2⟩ := L.head.cells
  go_enter Try.func28, Try.ntmps28
  go_wp2_with fail
  refine (clone_any L.row hn).mono ?_
  rintro e w1 ⟨u, rfl, hown, hb⟩
  go_wp2
  go_ret
  exact ⟨u, rfl, hown, hb⟩

theorem row_mono {B C : Nat} {u : Value} {m : Nat} {xs : List Value} {w : World} (h : w.ownsRow C 9 1 u m xs) (hB : B ≤ C) : w.ownsRow B 9 1 u m xs := by
  obtain ⟨h1, h2⟩ := h
  refine ⟨h1, ?_⟩
  rcases h2 with h2 | ⟨g, cap, cur, rfl, hb, hg, hr⟩
  · exact .inl h2
  · exact .inr ⟨g, cap, cur, rfl, Nat.le_trans hB hb, hg, hr⟩

set_option maxRecDepth 100000 in
theorem open_any {b d : Nat} {l : List UInt8} {sy ro : Nat} {h : Bool} {w : World} (D : DiskAt b d l sy ro h w) (rs : List ByteArray) (hrs : scan l = rs) :
    Calls Try.prog 20 #[.pointer (some ⟨d, 0, none⟩)] w fun e w' => ∃ a v, e = .returned (.pointer (some ⟨a, 0, none⟩)) ∧ DiskAt b d (frames rs) (frames rs).length ro false w' ∧ LogIn w.heap.size a d v rs rs.length w' ∧ Far b w w' := by
  have hle := D.len_le
  have hro := D.ro_le
  have hbw := D.heap
  have hsp := scan_le l
  have htk := scan_take l
  rw [hrs] at hsp htk
  obtain ⟨s, hs⟩ : ∃ s, (⟨l.toArray⟩ : ByteArray) = s := ⟨_, rfl⟩
  have hsc : scan s.data.toList = rs := by rw [← hs]; exact hrs
  have hsz : s.size ≤ 1099511627776 := by rw [← len_data, ← hs]; show l.length ≤ _; omega
  have HC := Lib.hid hsc
  have HT := Lib.hid htk
  have HS := Lib.hid hs
  clear hsc htk hrs hs
  go_enter Try.func20, Try.ntmps20
  go_wp2_with fail
  refine (Dk.bytes_any D).mono ?_
  rintro e w1 ⟨rfl, hb1⟩
  rw [HS.out]
  have D1 := D.below hb1
  have hs1 := hb1.size
  have F1 := Far.of_below hb1 hbw
  clear D hb1
  go_wp2_with fail
  refine (scan_any s rs HC.out hsz _).mono ?_
  rintro e w2 ⟨v, rfl, hown, hb2⟩
  have D2 := D1.below hb2
  have F2 := F1.trans (Far.of_below hb2 (Nat.le_trans hbw hs1))
  have hs2 := Nat.le_trans hs1 hb2.size
  clear D1 F1 hb2
  obtain ⟨ao, cap, rfl⟩ := Dk.own_form hown
  go_wp2_with fail
  refine (Dk.cut_yes D2 (frames rs).length hsp).mono ?_
  rintro e w3 ⟨rfl, D3, F3⟩
  rw [HT.out] at D3
  have hown3 := row_mono (row_far hown F3) hs1
  have hs3 := Nat.le_trans hs2 F3.below.size
  have hL : LogIn w.heap.size w3.heap.size d (.slice ao rs.length cap) rs rs.length (w3.alloc (.cells #[.pointer (some ⟨d, 0, none⟩), .slice ao rs.length cap, .int .i64 rs.length] 79)) :=
    ⟨hs3, Nat.le_trans hs3 (by simp), heap_alloc_new _ _, hown3.alloc _⟩
  have hb4 : Below w3.heap.size w3 (w3.alloc (.cells #[.pointer (some ⟨d, 0, none⟩), .slice ao rs.length cap, .int .i64 rs.length] 79)) := (Below.refl _ _).alloc (Nat.le_refl _) _
  have D4 := D3.below hb4
  have F4 := (F2.trans F3).trans (Far.of_below hb4 (Nat.le_trans hbw hs3))
  clear D2 D3 F2 F3 hown hown3 hb4
  go_wp2
  go_ret
  exact ⟨_, _, rfl, D4, hL, F4⟩

theorem put_head {B a d n : Nat} {v : Value} {rs : List ByteArray} {r : ByteArray} {W W4 : World} (L : LogIn B a d v rs n W) (hg : (W.alloc (.cells #[.string r] 9)).grownBy W4 v.ownBlock) : LogHead W4 a d v n := by
  have LA := L.below ((Below.refl W.heap.size W).alloc (Nat.le_refl _) (.cells #[.string r] 9))
  exact (hg.block a LA.head.lt L.row_ne).trans LA.head

/-- THE END of an Append: a row that holds one more, stored into the struct -/
theorem put_log {B a b d n : Nat} {v v' : Value} {rs : List ByteArray} {r : ByteArray} {l : List UInt8} {sy ro : Nat} {h : Bool} {W W4 : World} (L : LogIn B a d v rs n W) (D : DiskAt b d l sy ro h W)
    (hg : (W.alloc (.cells #[.string r] 9)).grownBy W4 v.ownBlock) (hown : W4.ownsRow B 9 1 v' (rs.length + 1) (strs rs ++ [.string r])) :
    DiskAt b d l sy ro h (W4.setCell ⟨a, 1, none⟩ v') ∧ LogIn B a d v' (rs ++ [r]) n (W4.setCell ⟨a, 1, none⟩ v') ∧ FarL B a v W (W4.setCell ⟨a, 1, none⟩ v') := by
  have hba : Below W.heap.size W (W.alloc (.cells #[.string r] 9)) := (Below.refl _ _).alloc (Nat.le_refl _) _
  have LA := L.below hba
  have DA := D.below hba
  have hh : LogHead W4 a d v n := (hg.block a LA.head.lt L.row_ne).trans LA.head
  have D4 := DA.kept hg fun k hk => by
    obtain ⟨_, cs, hc⟩ := Dk.own_block LA.row hk
    exact ⟨cs, 9, (0, 0), hc, by decide, by decide, by decide⟩
  have gs := Lib.grownBy_setCell W4 a 1 v'
  have hB1 := Nat.le_trans L.heap hba.size
  have hB4 := Nat.le_trans hB1 hg.size
  refine ⟨disk_log D4 hh 1 v', ⟨L.base, Nat.le_trans hB4 gs.size, hh.set1 v', ?_⟩, ?_, ?_⟩
  · rw [List.length_append, strs_snoc]
    exact row_kept hown fun k cs hk hc => (gs.block k (heap_lt hc) (fun e => Dk.own_ne hown hh (by decide) (by rw [hk, ← e]))).trans hc
  · exact (((Below.refl B W).alloc L.heap _).grown hg hB1 fun k hk => (LA.row.lt k hk).1).grown gs hB4 fun k hk => by obtain rfl := Option.some.inj hk; exact L.base
  · intro k cs t fz h1 _ _ _ h2 h3
    have h4 := (hba.block k (heap_lt h1)).trans h1
    have h5 := (hg.block k (heap_lt h4) h3).trans h4
    exact (gs.block k (heap_lt h5) (fun e => h2 (Option.some.inj e))).trans h5

theorem putnone_any {B a b d n : Nat} {v : Value} {rs : List ByteArray} {l : List UInt8} {sy ro : Nat} {h : Bool} {w : World} (D : DiskAt b d l sy ro h w) (L : LogIn B a d v rs n w) (r : ByteArray) (hr : ¬ may r) (hs : r.size ≤ maxLen) :
    Calls Try.prog 26 #[.pointer (some ⟨a, 0, none⟩), .string r] w fun e w' => e = .returned (.int .i64 3) ∧ DiskAt b d l sy ro h w' ∧ LogIn B a d v rs n w' ∧ Below w.heap.size w w' := by
  obtain ⟨c0, c1, c2⟩ := L.head.cells
  have hf := frame_no r hr
  have HF := Lib.hid hf
  clear hf hr
  go_enter Try.func26, Try.ntmps26
  go_wp2_with fail
  refine (frame_any r _ _ HF.out hs _).mono ?_
  rintro e w1 ⟨rfl, hb1⟩
  go_wp2
  go_ret
  exact ⟨rfl, D.below hb1, L.below hb1, hb1⟩

theorem putfull_any {B a b d n : Nat} {v : Value} {rs : List ByteArray} {l : List UInt8} {sy ro : Nat} {h : Bool} {w : World} (D : DiskAt b d l sy ro h w) (L : LogIn B a d v rs n w) (r : ByteArray) (hr : may r) (hro : ro < l.length + (r.size + 6)) (hB : B ≤ b) :
    Calls Try.prog 26 #[.pointer (some ⟨a, 0, none⟩), .string r] w fun e w' => e = .returned (.int .i64 4) ∧ DiskAt b d l sy ro h w' ∧ LogIn B a d v rs n w' ∧ FarL B a v w w' := by
  obtain ⟨c0, c1, c2⟩ := L.head.cells
  have hf := frame_yes r hr
  have hfs := frm_size r
  have hr8 := hr.2
  obtain ⟨f, hfe⟩ : ∃ f, frm r = f := ⟨_, rfl⟩
  rw [hfe] at hf hfs
  have HF := Lib.hid hf
  have hB2 := D.heap
  clear hf hr hfe
  go_enter Try.func26, Try.ntmps26
  go_wp2_with fail
  refine (frame_any r _ _ HF.out (by unfold maxLen; omega) _).mono ?_
  rintro e w1 ⟨rfl, hb1⟩
  have D1 := D.below hb1
  have L1 := L.below hb1
  have F1 : FarL B a v w w1 := .of_below hb1 L.heap
  obtain ⟨d0, d1, d2⟩ := L1.head.cells
  clear D L c0 c1 c2
  go_wp2_with fail
  refine (Dk.append_full D1 f (by unfold maxLen; omega) (by omega)).mono ?_
  rintro e w2 ⟨rfl, D2, F2⟩
  have L2 := L1.far F2
  have F3 := F1.then_same (.of_far F2 hB)
  clear D1 L1 d0 d1 d2 F1 F2
  go_wp2
  go_ret
  exact ⟨rfl, D2, L2, F3⟩

set_option maxHeartbeats 2000000 in
set_option maxRecDepth 100000 in
theorem putfits_any {B a b d n : Nat} {v : Value} {rs : List ByteArray} {l : List UInt8} {sy ro : Nat} {h : Bool} {w : World} (D : DiskAt b d l sy ro h w) (L : LogIn B a d v rs n w) (r : ByteArray) (hr : may r) (hro : l.length + (r.size + 6) ≤ ro) (hn : rs.length ≤ 1099511627776) (hB : B ≤ b) :
    Calls Try.prog 26 #[.pointer (some ⟨a, 0, none⟩), .string r] w fun e w' => ∃ v', e = .returned (.int .i64 0) ∧ DiskAt b d (l ++ frl r) sy ro h w' ∧ LogIn B a d v' (rs ++ [r]) n w' ∧ FarL B a v w w' ∧ (∀ g, v'.ownBlock = some g → v.ownBlock = some g ∨ w.heap.size ≤ g) := by
  obtain ⟨i0, hi, hz0, hz1, hz2⟩ := info_parts (P := Try.prog) (e := 9) (z := .string ⟨#[]⟩) (size := 1) (bytes := 16) (by kernel_rfl)
  obtain ⟨c0, c1, c2⟩ := L.head.cells
  obtain ⟨ao, cap, rfl⟩ := Dk.own_form L.row
  have hf := frame_yes r hr
  have hfs := frm_size r
  have hr8 := hr.2
  have hfl : (frm r).data.toList = frl r := rfl
  obtain ⟨f, hfe⟩ : ∃ f, frm r = f := ⟨_, rfl⟩
  rw [hfe] at hf hfs hfl
  have HF := Lib.hid hf
  have HFL := Lib.hid hfl
  have hB2 := D.heap
  clear hf hr hfe hfl
  go_enter Try.func26, Try.ntmps26
  go_wp2_with fail
  refine (frame_any r _ _ HF.out (by unfold maxLen; omega) _).mono ?_
  rintro e w1 ⟨rfl, hb1⟩
  have D1 := D.below hb1
  have L1 := L.below hb1
  have F1 : FarL B a (.slice ao rs.length cap) w w1 := .of_below hb1 L.heap
  have hs1 := hb1.size
  obtain ⟨d0, d1, d2⟩ := L1.head.cells
  clear D L c0 c1 c2
  go_wp2_with fail
  refine (Dk.append_fits D1 f (by omega)).mono ?_
  rintro e w2 ⟨rfl, D2, F2⟩
  rw [HFL.out] at D2
  have L2 := (L1.far F2).drew
  have D2' := D2.drew
  have F3 := F1.then_same ((FarL.of_far F2 hB).then_same (.of_below (Below.refl _ _).drew (L1.far F2).heap))
  have hs2 := Nat.le_trans hs1 F2.below.size
  clear D1 L1 d0 d1 d2 F1 F2 D2
  obtain ⟨c0, c1, c2⟩ := L2.head.cells
  have f1 := L2.head.free 1
  go_wp2_with fail
  go_region_law
    (first
      | (go_simp
         go_at_call 45
         refine (Pk.clone_any r (by omega) _).mono ?_
         rintro e w3 ⟨rfl, hb3⟩
         have L3 := L2.below hb3
         have D3 := D2'.below hb3
         have hs3 := hb3.size
         have hh3 := L3.heap
         obtain ⟨d0, d1, d2⟩ := L3.head.cells
         obtain ⟨e0, e1, e2⟩ := (L3.below ((Below.refl w3.heap.size w3).alloc (Nat.le_refl _) (.cells #[.string r] 9))).head.cells)
      | (refine step_append_lies _ (by rfl) _ _ 22 (by rfl) B 9 i0 (.string ⟨#[]⟩) 1 16 Try.underlying22 hi hz0 hz1 hz2 (by rfl) (by decide) (.slice ao rs.length cap) rs.length (strs rs) (by rfl) (L3.row.alloc _) ⟨w3.heap.size, 0, none⟩ 1 1 [.string r] (by rfl) (by rfl) (cell_one_new _ _ _) (by simp [Value.oneCell']) (by decide) (by unfold maxLen; omega) (by omega) (by simp; omega) (w3.heap.size + 1) (by simp) ?_
         intro g cap' w4 hown4 hg4 hat4 _
         have hh4 := put_head L3 hg4
         have g1 := hh4.cells.2.1
         have g2 := hh4.free 1
         have hp := put_log L3 D3 hg4 hown4))
  all_goals
    go_wp2
    go_ret
    refine ⟨_, rfl, hp.1, hp.2.1, F3.then_same ((FarL.of_below hb3 L2.heap).then_same hp.2.2), fun k hk => ?_⟩
    obtain rfl := Option.some.inj hk
    rcases hat4 with h1 | h1
    · exact .inl h1
    · right
      have hs4 : w2.heap.size ≤ w3.heap.size := hs3
      show w.heap.size ≤ g
      omega
end Go.Proofs.Ytgdaphckgckaaaa.Wl
