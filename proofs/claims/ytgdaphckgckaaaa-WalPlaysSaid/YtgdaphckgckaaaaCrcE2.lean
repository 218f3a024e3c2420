/-
  Contracts: the document's own Sum. No condition but the text's length.
-/
import Derived.Test.YtgdaphckgckaaaaCrcW
import Derived.Test.YtgdaphckgckaaaaCrcB
import Derived.Deep.QuietTactic
namespace Go.Proofs.Ytgdaphckgckaaaa.Crc
open Go.RowKit
set_option maxRecDepth 100000

theorem ref_sum_any (s : ByteArray) (hs : s.size ≤ maxLen) (w : World) :
    Calls Try.prog 36 #[.string s] w fun e w' => e = .returned (.int .u32 (add 0 s.data.toList : Nat)) ∧ w = w' := by
  go_enter Try.func36, Try.ntmps36
  go_wp2_with (go_at_call 52; refine (ref_add_any 0 s (by omega) hs _).mono ?_; rintro e w' ⟨rfl, rfl⟩)
  go_ret
  exact ⟨rfl, rfl⟩
end Go.Proofs.Ytgdaphckgckaaaa.Crc
