/- A slice of bytes as an argument, with its capacity. -/
import Derived.Test.YtgdfpmnbofnjfaaZLw
namespace Go.Proofs.Ytgdfpmnbofnjfaa
open Go.ChangeShapes Go.WideShapes Go.ChangeAt Go.RowKit
set_option linter.unusedVariables false
set_option linter.unusedSimpArgs false
set_option maxRecDepth 100000

/-- A slice of bytes that came in, with its capacity. -/
theorem open_arrc {H : Type} {enc : TypeId × Value → H} {W : World} {base : Nat} {v : Value} {d : DataW H} {p : List MemPlace} (hv : Value.okWide Try.prog W .any base 40 v) (h : DataW.Trod enc Try.prog W 0 (fun _ => true) true 40 v d p) :
    ∃ xs A c, v = .slice A xs.length c ∧ Arr W v xs ∧ (∀ u ∈ xs, 0 ≤ u ∧ u ≤ 255) ∧ xs.length ≤ c ∧ c ≤ maxLen := by
  obtain ⟨xs, A, c, rfl, hx, hr, hm⟩ := open_arr hv h
  refine ⟨xs, A, c, rfl, hx, hr, ?_⟩
  obtain ⟨fuel, hf⟩ := h
  rcases open_ints Try.underlying40 Try.underlying5 cells_u8 hf with ⟨hcs, _⟩ | ⟨a, len, cap, zs, hcs, _, hl, hm, hz, _, hcell, hwf⟩
  · simp [Value.cells] at hcs
    obtain ⟨rfl, rfl, rfl⟩ := hcs
    exact ⟨Nat.le_refl _, Nat.zero_le _⟩
  · simp [Value.cells] at hcs
    obtain ⟨rfl, rfl, rfl⟩ := hcs
    exact ⟨hl, hm⟩


end Go.Proofs.Ytgdfpmnbofnjfaa
