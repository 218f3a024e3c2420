/-
  Plain mathematics of few commands: what a law makes of any command's parts, and how it is told. Nothing of the program's memory.
-/
import Derived.Test.YtolgboedinbpeaaDoorCmdX
import Derived.Test.YtolgboedinbpeaaDoorCmdE
import Derived.Test.YtolgboedinbpeaaDoorCmdB
import Derived.Test.YtolgboedinbpeaaDoorNest
namespace Go.Proofs.YtolgboedinbpeaaDoor.Cm
open Go.RowKit
open Pk (numB number textB)
open Bl (dig digits_last)

/-- one of few commands -/
structure Few (p d t : Int) (l u : ByteArray) : Prop where
  ways : (p = 0 ∧ d = 0 ∧ t = 0 ∧ l = ⟨#[]⟩ ∧ u = ⟨#[]⟩) ∨ (1 ≤ p ∧ p ≤ 3 ∧ 1 ≤ d ∧ d ≤ 4 ∧ 1 ≤ t ∧ t ≤ 5 ∧ (∃ b, l = ⟨#[b]⟩) ∧ u.size ≤ 8 ∧ (p = 1 ∨ u = ⟨#[]⟩))

theorem few_of (o c s : Int) (v : ByteArray) (p d t : Int) (l u : ByteArray) (h : wishC o c s v = (p, d, t, l, u)) : Few p d t l u := by
  rcases wish_way o c s v p d t l u h with ⟨_, h1, h2, h3, h4, h5⟩ | ⟨h, h3, h4, h5⟩
  · exact ⟨.inl ⟨h1, h2, h3, h4, h5⟩⟩
  · refine ⟨.inr ?_⟩
    have hu : 1 ≤ p ∧ p ≤ 3 ∧ u.size ≤ 8 ∧ (p = 1 ∨ u = ⟨#[]⟩) := by
      rcases h with ⟨_, h1, h2⟩ | ⟨_, h1, h2⟩ | ⟨_, h1, h2⟩ | ⟨_, h1, h2⟩
      · refine ⟨by omega, by omega, ?_, .inl h1⟩
        rw [h2, Pk.size_extract0]; omega
      all_goals
        refine ⟨by omega, by omega, ?_, .inr h2⟩
        rw [h2]; exact Nat.zero_le _
    exact ⟨hu.1, hu.2.1, by omega, by omega, by omega, by omega, ⟨_, h5⟩, hu.2.2.1, hu.2.2.2⟩

section
variable {p d t p' d' t' : Int} {l u l' u' : ByteArray}
theorem Few.small (h : Few p d t l u) : 0 ≤ p ∧ p ≤ 3 ∧ 0 ≤ d ∧ d ≤ 4 ∧ 0 ≤ t ∧ t ≤ 5 ∧ l.size ≤ 1 ∧ u.size ≤ 8 := by
  rcases h.ways with ⟨rfl, rfl, rfl, rfl, rfl⟩ | ⟨h1, h2, h3, h4, h5, h6, ⟨b, rfl⟩, h8, _⟩
  · exact ⟨by omega, by omega, by omega, by omega, by omega, by omega, Nat.zero_le _, Nat.zero_le _⟩
  · exact ⟨by omega, by omega, by omega, by omega, by omega, by omega, Nat.le_refl _, h8⟩
theorem Few.right (h : Few p d t l u) : rightC p d t l u = true := by
  rw [rightC_iff]
  rcases h.ways with ⟨rfl, rfl, rfl, rfl, rfl⟩ | ⟨h1, h2, h3, h4, h5, h6, ⟨b, rfl⟩, h8, h9⟩
  · exact .inl ⟨rfl, rfl, rfl, rfl, rfl⟩
  · refine .inr ⟨h1, h2, h3, by omega, h5, Nat.le_refl _, show (1 : Nat) ≤ 16 by omega, by omega, ?_⟩
    rcases h9 with h9 | rfl
    · exact .inl h9
    · exact .inr rfl

theorem dig_inj (a b : Nat) (ha : a < 10) (hb : b < 10) (h : dig a = dig b) : a = b := by
  have := congrArg UInt8.toNat h
  unfold dig at this
  rw [UInt8.toNat_ofNat', UInt8.toNat_ofNat'] at this
  omega
theorem word_list (o : Int) : (wordC o).data.toList = if o = 1 then [112, 117, 116] else if o = 2 then [103, 101, 116] else if o = 3 then [100, 101, 108] else [63] := by
  unfold wordC
  split
  · rfl
  split
  · rfl
  split
  · rfl
  · rfl
/-- how one of few is told, that is no Noop -/
theorem text_few (p d t : Int) (b : UInt8) (u : ByteArray) (h1 : 1 ≤ p) (h3 : 1 ≤ d) (h4 : d ≤ 4) (h5 : 1 ≤ t) (h6 : t ≤ 5) :
    (textC p d t ⟨#[b]⟩ u).data.toList = (wordC p).data.toList ++ 32 :: dig d.toNat :: 46 :: dig t.toNat :: 32 :: b :: (if p = 1 then 61 :: u.data.toList else []) := by
  have e1 : Lib.itoa d = [dig d.toNat] := by
    unfold Lib.itoa; rw [if_neg (by omega), digits_last (by omega)]
  have e2 : Lib.decDigits t.toNat = [dig t.toNat] := digits_last (by omega)
  unfold textC leadC
  rw [if_neg (by omega), e1, e2]
  by_cases hp : p = 1
  · rw [if_pos hp, if_pos hp]
    simp only [ByteArray.data_append, Array.toList_append, List.append_assoc, List.cons_append, List.nil_append]
  · rw [if_neg hp, if_neg hp]
    simp only [ByteArray.data_append, Array.toList_append, List.append_assoc, List.cons_append, List.nil_append]
theorem text_noop (d t : Int) (l u : ByteArray) : (textC 0 d t l u).data.toList = [45] := rfl

theorem text_inj (h : Few p d t l u) (h' : Few p' d' t' l' u') (e : textC p d t l u = textC p' d' t' l' u') : p = p' ∧ d = d' ∧ t = t' ∧ l = l' ∧ u = u' := by
  replace e : (textC p d t l u).data.toList = (textC p' d' t' l' u').data.toList := by rw [e]
  rcases h.ways with ⟨rfl, rfl, rfl, rfl, rfl⟩ | ⟨h1, h2, h3, h4, h5, h6, ⟨b, rfl⟩, h8, h9⟩
  · rcases h'.ways with ⟨rfl, rfl, rfl, rfl, rfl⟩ | ⟨h1', h2', h3', h4', h5', h6', ⟨b', rfl⟩, h8', h9'⟩
    · exact ⟨rfl, rfl, rfl, rfl, rfl⟩
    · rw [text_noop, text_few p' d' t' b' u' h1' h3' h4' h5' h6'] at e
      have := congrArg List.length e
      simp at this
      omega
  · rcases h'.ways with ⟨rfl, rfl, rfl, rfl, rfl⟩ | ⟨h1', h2', h3', h4', h5', h6', ⟨b', rfl⟩, h8', h9'⟩
    · rw [text_noop, text_few p d t b u h1 h3 h4 h5 h6] at e
      have := congrArg List.length e
      simp at this
      omega
    · rw [text_few p d t b u h1 h3 h4 h5 h6, text_few p' d' t' b' u' h1' h3' h4' h5' h6', word_list, word_list] at e
      have hp : p = 1 ∨ p = 2 ∨ p = 3 := by omega
      have hp' : p' = 1 ∨ p' = 2 ∨ p' = 3 := by omega
      have hu : ∀ {p : Int} {u : ByteArray}, (p = 1 ∨ u = ⟨#[]⟩) → ¬ p = 1 → u = ⟨#[]⟩ := fun h k => h.resolve_left k
      have hd : ∀ {d d' : Int}, 1 ≤ d → d ≤ 5 → 1 ≤ d' → d' ≤ 5 → dig d.toNat = dig d'.toNat → d = d' := fun a b c d e => by
        have := dig_inj _ _ (by omega) (by omega) e; omega
      rcases hp with rfl | rfl | rfl <;> rcases hp' with rfl | rfl | rfl <;> simp at e
      · obtain ⟨e1, e2, e3, e4⟩ := e
        exact ⟨rfl, hd h3 (by omega) h3' (by omega) e1, hd h5 h6 h5' h6' e2, by rw [e3], ByteArray.ext (by simpa using e4)⟩
      · obtain ⟨e1, e2, e3⟩ := e
        exact ⟨rfl, hd h3 (by omega) h3' (by omega) e1, hd h5 h6 h5' h6' e2, by rw [e3], by rw [hu h9 (by decide), hu h9' (by decide)]⟩
      · obtain ⟨e1, e2, e3⟩ := e
        exact ⟨rfl, hd h3 (by omega) h3' (by omega) e1, hd h5 h6 h5' h6' e2, by rw [e3], by rw [hu h9 (by decide), hu h9' (by decide)]⟩
/-- two of few are told alike just if they are the same -/
theorem text_beq (h : Few p d t l u) (h' : Few p' d' t' l' u') : ((textC p d t l u).toList == (textC p' d' t' l' u').toList) = (p == p' && (d == d' && (t == t' && (l.toList == l'.toList && u.toList == u'.toList)))) := by
  rw [Bool.eq_iff_iff, toList_beq, toList_beq, toList_beq, decide_eq_true_eq]
  simp only [Bool.and_eq_true, beq_iff_eq, decide_eq_true_eq]
  exact ⟨fun e => text_inj h h' e, fun ⟨h1, h2, h3, h4, h5⟩ => by rw [h1, h2, h3, h4, h5]⟩
theorem text_dash (h : Few p d t l u) : ((textC p d t l u).toList == [45]) = (p == 0) := by
  rw [show ([45] : List UInt8) = (⟨#[45]⟩ : ByteArray).toList by rw [ByteArray.toList_eq], Bool.eq_iff_iff, toList_beq, decide_eq_true_eq, beq_iff_eq]
  constructor
  · intro e
    exact (text_inj h (⟨.inl ⟨rfl, rfl, rfl, rfl, rfl⟩⟩ : Few 0 0 0 ⟨#[]⟩ ⟨#[]⟩) e).1
  · rintro rfl; rfl
end
/-- a command by its parts: as it is, or one of few -/
def wishA (o c s : Int) (k v : ByteArray) (own : Bool) : Int × Int × Int × ByteArray × ByteArray := if own then wishC o c s v else (o, c, s, k, v)
theorem wish_any (o c s : Int) (k v : ByteArray) (own : Bool) (p d t : Int) (l u : ByteArray) (h : wishA o c s k v own = (p, d, t, l, u)) (h0 : 0 ≤ s) (hr : s ≤ 4294967295) (w : World) :
    Calls Tryd.prog 10 #[.agg #[.int .i64 o, .int .i64 c, .int .u32 s, .string k, .string v, .bool own]] w fun e w' => e = .returned (.agg #[.int .i64 p, .int .i64 d, .int .u32 t, .string l, .string u]) ∧ Below w.heap.size w w' := by
  cases own
  · obtain ⟨rfl, rfl, rfl, rfl, rfl⟩ : o = p ∧ c = d ∧ s = t ∧ k = l ∧ v = u := by simpa [wishA] using h
    exact wish_no _ _ _ _ _ _
  · exact wish_own _ _ _ _ _ _ _ _ _ _ h h0 hr _
theorem wishA_bd (o c s : Int) (k v : ByteArray) (own : Bool) (p d t : Int) (l u : ByteArray) (h : wishA o c s k v own = (p, d, t, l, u)) (h0 : 0 ≤ s) (hr : s ≤ 4294967295) (v0 : -9223372036854775808 ≤ c) (v1 : c ≤ 9223372036854775807)
    (hk : k.size ≤ 140737488351232) (hv : v.size ≤ 140737488351232) : 0 ≤ t ∧ t ≤ 4294967295 ∧ -9223372036854775808 ≤ d ∧ d ≤ 9223372036854775807 ∧ l.size ≤ 140737488351232 ∧ u.size ≤ 140737488351232 := by
  cases own
  · obtain ⟨rfl, rfl, rfl, rfl, rfl⟩ : o = p ∧ c = d ∧ s = t ∧ k = l ∧ v = u := by simpa [wishA] using h
    exact ⟨h0, hr, v0, v1, hk, hv⟩
  · have := (few_of _ _ _ _ _ _ _ _ _ h).small
    omega
theorem bytes_ok {o c s : Int} {k v : ByteArray} (h : rightC o c s k v = true) : ∃ x, bytesC o c s k v = (x, true) := ⟨_, by unfold bytesC; rw [if_pos h]⟩
theorem bytes_short {o c s : Int} {k v x : ByteArray} {ok : Bool} (h : bytesC o c s k v = (x, ok)) : x.size ≤ 58 := by
  cases ok
  · rcases bytesC_way _ _ _ _ _ _ _ h with ⟨_, h2, _⟩ | ⟨_, _, rfl⟩
    · cases h2
    · exact Nat.zero_le _
  · have := bytesC_size _ _ _ _ _ _ h; omega
/-- the bytes of two that are right are the same just if they are -/
theorem bytes_beq {o c q : Int} {k v x : ByteArray} {o' c' q' : Int} {k' v' x' : ByteArray} (q1 : q ≤ 4294967295) (q1' : q' ≤ 4294967295) (h : bytesC o c q k v = (x, true)) (h' : bytesC o' c' q' k' v' = (x', true)) :
    (x.toList == x'.toList) = (o == o' && (c == c' && (q == q' && (k.toList == k'.toList && v.toList == v'.toList)))) := by
  rw [Bool.eq_iff_iff, toList_beq, toList_beq, toList_beq, decide_eq_true_eq]
  simp only [Bool.and_eq_true, beq_iff_eq, decide_eq_true_eq]
  constructor
  · rintro rfl; exact bytesC_inj _ _ _ _ _ _ _ _ _ _ _ q1 q1' h h'
  · rintro ⟨rfl, rfl, rfl, rfl, rfl⟩; rw [h] at h'; simpa using h'

/-- so many zeros, as a slice and as a text -/
theorem zeros_of (n : Nat) (hn : n ≤ 281474976710656) : ∃ (s : ByteArray) (M : Array Value), s.size = n ∧
    Hid (∀ W, (Instr.makeSlice 52 (.int .i64 (n : Int)) (.int .i64 (n : Int))).run Tryd.prog W = .ok (.slice (some ⟨W.heap.size, 0, none⟩) n n) (W.alloc (.cells M 5))) ∧
    Hid (∀ (W : World) (g : Nat), g = W.heap.size → Crc.Bytes (W.alloc (.cells M 5)) g (List.replicate n 0)) ∧
    Hid (∀ (W : World) (g : Nat), Crc.Bytes W g (List.replicate n 0) → (convert 52 9 (.slice (some ⟨g, 0, none⟩) n n)).run Tryd.prog W = .ok (.string s) W) := by
  refine ⟨⟨(List.replicate n 0).toArray⟩, Pk.zeros n, ?_, Lib.hid (Pk.make_bytes n hn), Lib.hid (fun W g h => by rw [h]; exact Pk.zeros_bytes W n), Lib.hid (fun W g h => ?_)⟩
  · show (List.replicate n (0 : UInt8)).toArray.size = n
    simp
  · have := h.back (P := Tryd.prog) 52 9 5 n Tryd.underlying52 Tryd.underlying5 Tryd.underlying9
    rwa [List.length_replicate] at this

/-- a clash, told both ways -/
theorem clash_symm (o c s : Int) (k : ByteArray) (p d t : Int) (l : ByteArray) : clashC o c s k p d t l = clashC p d t l o c s k := by
  unfold clashC
  rw [show (k.toList == l.toList) = (l.toList == k.toList) from Bool.eq_iff_iff.2 (by rw [beq_iff_eq, beq_iff_eq]; exact eq_comm), show (c == d) = (d == c) from Bool.eq_iff_iff.2 (by rw [beq_iff_eq, beq_iff_eq]; exact eq_comm), show (s == t) = (t == s) from Bool.eq_iff_iff.2 (by rw [beq_iff_eq, beq_iff_eq]; exact eq_comm)]
  cases (o == 0) <;> cases (p == 0) <;> rfl
end Go.Proofs.YtolgboedinbpeaaDoor.Cm
