/- Routes: lives. -/
import Derived.Test.YthhajknmokomjaaZNlG
namespace Go.Proofs.Ythhajknmokomjaa
open Go.RowKit Go.Maps Go.Shelf
set_option linter.unusedVariables false
set_option linter.unusedSimpArgs false
set_option maxRecDepth 100000

/-- The flood route of the examples. -/
def nlf : NL := ⟨3, 293565309714437, 0, 0, 0, 0, 0, 0, 0, 0, 0, 0, 0, 0, 184483841, true, 0, 0, 0, 0, 0⟩
theorem nlf_chk : chk nlf = 0 := by decide
theorem nlf_ty : nlf.ty := ⟨by decide, by decide, by decide, by decide, by decide, by decide, by decide, by decide, by decide, by decide⟩
theorem nlf_enc : enc nlf = [3, 17, 0, 1, 10, 255, 0, 1, 0, 5, 0, 0, 0, 0, 32, 10, 255, 0, 1] := by decide

theorem rd_flood (w : World) : Calls Try.prog 16 #[.int .u32 184483841, .int .u16 5] w fun e w' => e = .returned (.int .u64 293565309714437) ∧ w = w' := by
  go_enter Try.func16, Try.ntmps16
  go_wp2
  go_ret
  exact ⟨rfl, rfl⟩

theorem lives4 (w : World) : Calls Try.prog 5 #[] w fun e w' => e = .returned (.bool true) ∧ Below w.heap.size w w' := by
  go_enter Try.func5, Try.ntmps5
  go_wp2_with (first
    | (go_at_call 16; refine (rd_flood _).mono ?_; rintro e w1 ⟨rfl, rfl⟩)
    | (go_at_call 6; refine (bytes_yes nlf nlf_ty nlf_chk _).mono ?_; rintro e w2 ⟨b, c, rfl, hrow, hsz, hb⟩; rw [nlf_enc] at *
       have HB2 := Lib.hid hb
       have hconv : (convert 34 9 (.slice (some ⟨b, 0, none⟩) 19 c)).run Try.prog w2 = .ok (.string ⟨#[3, 17, 0, 1, 10, 255, 0, 1, 0, 5, 0, 0, 0, 0, 32, 10, 255, 0, 1]⟩) w2 := copied_string (w := w2) (base := w.heap.size) (.inr ⟨b, c, rfl, hrow, hsz⟩)
       clear hrow hsz hb))
  go_ret
  exact ⟨rfl, HB2.out⟩

end Go.Proofs.Ythhajknmokomjaa
