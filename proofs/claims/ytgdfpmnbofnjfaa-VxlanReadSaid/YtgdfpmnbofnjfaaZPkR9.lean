/- Packets: the document's Read; written by gen_pkr5.py. -/
import Derived.Test.YtgdfpmnbofnjfaaZPkRg
import Derived.Test.YtgdfpmnbofnjfaaZPkRd
import Derived.Test.YtgdfpmnbofnjfaaZPkR6
import Derived.Test.YtgdfpmnbofnjfaaZPkR7
import Derived.Test.YtgdfpmnbofnjfaaZPkR8
namespace Go.Proofs.Ytgdfpmnbofnjfaa
open Go.RowKit Go.Shelf
set_option linter.unusedVariables false
set_option linter.unusedSimpArgs false
set_option maxRecDepth 100000

theorem rread_any (v : Value) (bs : List Int) (w : World) (hA : Arr w v bs) (hm : bs.length ≤ 1000) (hby : ∀ v ∈ bs, 0 ≤ v ∧ v ≤ 255) : Calls Try.prog 40 #[v] w (ReadsTo w bs) := by
  by_cases h14 : bs.length < 14
  · obtain ⟨A, c, rfl⟩ := hA.form
    exact rread_s14 A c bs w h14
  rcases hA with ⟨_, h⟩ | ⟨ad, c, rfl, h2⟩
  · rw [h] at h14; simp at h14
  obtain ⟨b, o, rfl, hs⟩ := h2.plain (by omega)
  have hl : 14 ≤ bs.length := by omega
  by_cases k1 : cod bs = 34997
  · exact rread_d b o c bs w hs hl hm hby k1
  by_cases k2 : cod bs = 2054
  · exact rread_a b o c bs w hs hl hm hby k2
  by_cases k3 : cod bs = 2048
  · by_cases h34 : bs.length < 34
    · exact rread_g b o c bs w hs hl hm hby k3 h34
    cases hp : pd (nm bs 23 1)
    · exact rread_f b o c bs w hs hl hm hby k3 (by omega) hp
    · exact rread_t b o c bs w hs hl hm hby k3 (by omega) hp
  · exact rread_none b o c bs w hs hl hm hby ⟨k1, k2, k3⟩

end Go.Proofs.Ytgdfpmnbofnjfaa
