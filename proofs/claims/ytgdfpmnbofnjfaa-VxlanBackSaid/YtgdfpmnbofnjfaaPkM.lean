/- PacketBack: the example, and the walk. -/
import Derived.Test.YtgdfpmnbofnjfaaPkL
namespace Go.Proofs.Ytgdfpmnbofnjfaa
open Go.RowKit Go.Shelf
set_option linter.unusedVariables false
set_option linter.unusedSimpArgs false
set_option maxRecDepth 100000

/-- The frame of the example. -/
def frl : FR := ⟨2199023255553, 281474976710655, 0, 0, 0, 0, 0, 0, 0, 0, 0, 0, 0, 0, 7⟩
theorem frl_chk : fchk frl = 0 := by decide
theorem frl_ty : frl.ty := ⟨by decide, by decide, by decide, by decide, by decide, by decide, by decide, by decide, by decide, by decide, by decide, by decide, by decide, by decide, by decide⟩
theorem frl_enc : fenc frl = [255, 255, 255, 255, 255, 255, 2, 0, 0, 0, 0, 1, 136, 181, 0, 0, 0, 0, 0, 0, 0, 7] := by decide

end Go.Proofs.Ytgdfpmnbofnjfaa
