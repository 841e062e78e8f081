/- WireWrites: the document's own writer: numbers. -/
import Derived.Test.YtjachhgcoioohaaWwA
namespace Go.Proofs.Ytjachhgcoioohaa
open Go.RowKit
set_option linter.unusedVariables false
set_option maxRecDepth 100000

theorem news_block {w : World} {t : TypeId} {x : Value} : ∀ j u, [x][j]? = some u → (w.alloc (.cells #[x] t)).cell? ((⟨w.heap.size, 0, none⟩ : Addr).add j) = some u := by
  intro j u hu
  obtain ⟨hj, rfl⟩ := List.getElem?_eq_some_iff.1 hu
  simp only [List.length_singleton] at hj
  obtain rfl : j = 0 := by omega
  simp [Addr.add]

theorem Next.drewN {w w' : World} {l l' : List Nat} (h : Next w l w' l') (n : Nat) : Next w l (w'.drewN n) l' := ⟨⟨h.1.os, h.1.tape, h.1.output, h.1.size, h.1.block⟩, h.2⟩
/-- The numbers that fit: what is left behind the tests. -/
theorem WS.put_fit {s : WS} {n : Int} {k : Nat} (h1 : ¬ (256 : Int) ^ k ≤ n) (h2 : ¬ s.lim - s.out.length < k) : s.put n k = (0, { s with out := s.out ++ be n k }) := by
  unfold WS.put; rw [if_neg h1, if_neg h2]

end Go.Proofs.Ytjachhgcoioohaa
