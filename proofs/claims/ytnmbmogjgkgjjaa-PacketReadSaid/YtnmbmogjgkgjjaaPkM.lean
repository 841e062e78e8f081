/- PacketBack: the example, and the walk. -/
import Derived.Test.YtnmbmogjgkgjjaaPkL
namespace Go.Proofs.Ytnmbmogjgkgjjaa
open Go.RowKit Go.Shelf
set_option linter.unusedVariables false
set_option linter.unusedSimpArgs false
set_option maxRecDepth 100000

/-- The frame of the example. -/
def frl : FR := ⟨2199023255553, 281474976710655, 0, 0, 0, 0, 0, 0, 0, 0, 0, 0, 0, 0, 7⟩
theorem frl_chk : fchk frl = 0 := by decide
theorem frl_ty : frl.ty := ⟨by decide, by decide, by decide, by decide, by decide, by decide, by decide, by decide, by decide, by decide, by decide, by decide, by decide, by decide, by decide⟩
theorem frl_enc : fenc frl = [255, 255, 255, 255, 255, 255, 2, 0, 0, 0, 0, 1, 136, 181, 0, 0, 0, 0, 0, 0, 0, 7] := by decide

theorem lives7 (w : World) : Calls Try.prog 9 #[] w fun e w' => e = .returned (.bool true) ∧ Below w.heap.size w w' := by
  go_enter Try.func9, Try.ntmps9
  go_wp2_with (first
    | (go_at_call 10; refine (bytes_yes frl frl_ty frl_chk _).mono ?_; rintro e w2 ⟨b, c, rfl, hrow, hsz, hb⟩; rw [frl_enc] at *
       have HB2 := Lib.hid hb
       have hconv : (convert 23 9 (.slice (some ⟨b, 0, none⟩) 22 c)).run Try.prog w2 = .ok (.string ⟨#[255, 255, 255, 255, 255, 255, 2, 0, 0, 0, 0, 1, 136, 181, 0, 0, 0, 0, 0, 0, 0, 7]⟩) w2 := copied_string (w := w2) (base := w.heap.size) (.inr ⟨b, c, rfl, hrow, hsz⟩)
       clear hrow hsz hb))
  go_ret
  exact ⟨rfl, HB2.out⟩

end Go.Proofs.Ytnmbmogjgkgjjaa
