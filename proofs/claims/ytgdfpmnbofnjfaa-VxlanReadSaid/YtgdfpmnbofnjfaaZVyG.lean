/- Packets that carry frames: the document's Read; written by gen_vyd.py. -/
import Derived.Test.YtgdfpmnbofnjfaaZVyE
import Derived.Test.YtgdfpmnbofnjfaaZVyF
namespace Go.Proofs.Ytgdfpmnbofnjfaa
open Go.RowKit Go.Shelf
set_option linter.unusedVariables false
set_option linter.unusedSimpArgs false
set_option maxRecDepth 100000

theorem rvread_any (A : Option Addr) (c : Nat) (bs : List Int) (w : World) (hA : Arr w (.slice A bs.length c) bs) (hby : ∀ v ∈ bs, 0 ≤ v ∧ v ≤ 255) (hm : bs.length ≤ 1000) (hcap : bs.length ≤ c) :
    Calls Try.prog 21 #[.slice A bs.length c] w (VReads w bs) := by
  by_cases h36 : bs.length < 36
  · exact rvread_s A c bs w h36
  obtain ⟨b, o, rfl, hs⟩ : ∃ b o, A = some ⟨b, o, none⟩ ∧ Sl w b o bs := by
    rcases hA with ⟨_, h⟩ | ⟨ad, c', h1, h2⟩
    · rw [h] at h36; simp at h36
    · injection h1 with h1 _ _
      subst h1
      obtain ⟨b, o, rfl, hs⟩ := h2.plain (by omega)
      exact ⟨b, o, rfl, hs⟩
  have hl : 36 ≤ bs.length := by omega
  by_cases h17 : nm bs 9 1 = 17
  · by_cases h47 : nm bs 22 2 = 4789
    · by_cases h0 : (fread (bs.drop 36)).2.1 = 0
      · refine rvread_ok b o c bs w hs hl hm hby hcap h17 h47 ?_ h0
        by_cases hc : 36 < c
        · exact hc
        · exact absurd h0 (by rw [List.drop_eq_nil_of_le (by omega)]; decide)
      · by_cases hc : 36 < c
        · exact rvread_in_a b o c bs w hs hl hm hby hcap h17 h47 hc h0
        · exact rvread_in_c b o c bs w hs hl hm hby hcap h17 h47 (by omega) h0
    · exact rvread_port b o c bs w hs hl hm hby hcap h17 h47
  · exact rvread_proto b o c bs w hs hl hm hby hcap h17


end Go.Proofs.Ytgdfpmnbofnjfaa
