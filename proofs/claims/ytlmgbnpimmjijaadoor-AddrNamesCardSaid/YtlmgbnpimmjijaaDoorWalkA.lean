/- AddrTexts: the first steps. -/
import Derived.Test.YtlmgbnpimmjijaaDoorTexts
namespace Go.Proofs.YtlmgbnpimmjijaaDoor
open Go.RowKit

theorem lives_any (w : World) : Calls Tryd.prog 5 #[] w fun e w' => e = .returned (.bool true) ∧ w = w' := by
  go_enter Tryd.func5, Tryd.ntmps5
  go_wp2
  go_ret
  exact ⟨rfl, rfl⟩

set_option maxRecDepth 100000 in
set_option maxHeartbeats 4000000 in
theorem texts_long (ip m pip pl a b c d e f g h i j : Int) (s : ByteArray) (hs : 200 < s.size) (w : World) :
    Calls Tryd.prog 4 #[.int .u32 ip, .int .u64 m, pfx pip pl, esi a b c d e f g h i j, .string s] w fun en W' => en = .returned (.bool true) ∧ Below w.heap.size w W' := by
  go_enter Tryd.func4, Tryd.ntmps4
  go_wp2_with fail
  refine (lives_any _).mono ?_
  rintro en W ⟨rfl, rfl⟩
  go_wp2_with fail
  go_ret
  exact ⟨rfl, ((Below.refl _ w).alloc (Nat.le_refl _) _).alloc (by simp) _⟩

end Go.Proofs.YtlmgbnpimmjijaaDoor
