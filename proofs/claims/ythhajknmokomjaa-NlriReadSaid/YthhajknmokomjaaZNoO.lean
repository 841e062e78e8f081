/- Routes: a route as an argument, opened. -/
import Derived.Test.YthhajknmokomjaaZNlA
import Derived.ProofKit
import Derived.OpenShut
namespace Go.Proofs.Ythhajknmokomjaa
open Go.ChangeShapes Go.WideShapes Go.ChangeAt Go.RowKit
set_option maxRecDepth 100000

theorem list21 {α : Type} (l : List α) (h : l.length = 21) : ∃ a b c d e f g h i j k m n o p q r s t u v, l = [a, b, c, d, e, f, g, h, i, j, k, m, n, o, p, q, r, s, t, u, v] := by
  match l, h with
  | [a, b, c, d, e, f, g, h, i, j, k, m, n, o, p, q, r, s, t, u, v], _ => exact ⟨a, b, c, d, e, f, g, h, i, j, k, m, n, o, p, q, r, s, t, u, v, rfl⟩

theorem cellsNl : Try.prog.cellsOf 31 = 21 := by kernel_rfl
theorem typesNl : Try.prog.cellTypes Try.prog.depth 31 = some [3, 22, 5, 5, 5, 5, 5, 5, 5, 5, 5, 5, 25, 26, 27, 4, 27, 3, 27, 25, 25] := by kernel_rfl

section
variable {W : World} {base : Nat}
theorem cell_int {t : TypeId} {k : IntKind} {v : Value} (ht : Try.prog.underlying t = some (.int k)) (h : Cell.okWide Try.prog W .any base t v) : ∃ n, v = .int k n :=
  okWide_int (P := Try.prog) (w := W) (base := base) (t := t) (k := k) ht (by simpa [Value.okWide, ht] using h)
theorem cell_bool {t : TypeId} {v : Value} (ht : Try.prog.underlying t = some .bool) (h : Cell.okWide Try.prog W .any base t v) : ∃ b, v = .bool b :=
  okWide_bool (P := Try.prog) (w := W) (base := base) (t := t) ht (by simpa [Value.okWide, ht] using h)

theorem open_nl {v : Value} (hv : Value.okWide Try.prog W .any base 31 v) : ∃ x : NL, v = .agg x.cs := by
  obtain ⟨cs, rfl, hsz, ts, hts, _, hc⟩ : ∃ cs, v = .agg cs ∧ cs.size = Try.prog.cellsOf 31 ∧ Row.okWide Try.prog W .any base 31 cs := by
    simpa [Value.okWide, Try.underlying31] using hv
  rw [cellsNl] at hsz
  rw [typesNl] at hts
  injection hts with hts
  subst hts
  obtain ⟨l⟩ := cs
  obtain ⟨c0, c1, c2, c3, c4, c5, c6, c7, c8, c9, c10, c11, c12, c13, c14, c15, c16, c17, c18, c19, c20, rfl⟩ := list21 l (by simpa using hsz)
  have at_ : ∀ (i : Nat) (v : Value) (u : TypeId), (#[c0, c1, c2, c3, c4, c5, c6, c7, c8, c9, c10, c11, c12, c13, c14, c15, c16, c17, c18, c19, c20] : Array Value)[i]? = some v → [3, 22, 5, 5, 5, 5, 5, 5, 5, 5, 5, 5, 25, 26, 27, 4, 27, 3, 27, 25, 25][i % 21]? = some u → Cell.okWide Try.prog W .any base u v := fun i v u h1 h2 => by
    obtain ⟨u', h3, h4⟩ := hc i v h1
    have h5 : some u' = some u := h3.symm.trans h2
    injection h5 with h5
    exact h5 ▸ h4
  obtain ⟨n0, rfl⟩ := cell_int Try.underlying3 (at_ 0 _ _ rfl rfl)
  obtain ⟨n1, rfl⟩ := cell_int Try.underlying22 (at_ 1 _ _ rfl rfl)
  obtain ⟨n2, rfl⟩ := cell_int Try.underlying5 (at_ 2 _ _ rfl rfl)
  obtain ⟨n3, rfl⟩ := cell_int Try.underlying5 (at_ 3 _ _ rfl rfl)
  obtain ⟨n4, rfl⟩ := cell_int Try.underlying5 (at_ 4 _ _ rfl rfl)
  obtain ⟨n5, rfl⟩ := cell_int Try.underlying5 (at_ 5 _ _ rfl rfl)
  obtain ⟨n6, rfl⟩ := cell_int Try.underlying5 (at_ 6 _ _ rfl rfl)
  obtain ⟨n7, rfl⟩ := cell_int Try.underlying5 (at_ 7 _ _ rfl rfl)
  obtain ⟨n8, rfl⟩ := cell_int Try.underlying5 (at_ 8 _ _ rfl rfl)
  obtain ⟨n9, rfl⟩ := cell_int Try.underlying5 (at_ 9 _ _ rfl rfl)
  obtain ⟨n10, rfl⟩ := cell_int Try.underlying5 (at_ 10 _ _ rfl rfl)
  obtain ⟨n11, rfl⟩ := cell_int Try.underlying5 (at_ 11 _ _ rfl rfl)
  obtain ⟨n12, rfl⟩ := cell_int Try.underlying25 (at_ 12 _ _ rfl rfl)
  obtain ⟨n13, rfl⟩ := cell_int Try.underlying26 (at_ 13 _ _ rfl rfl)
  obtain ⟨n14, rfl⟩ := cell_int Try.underlying27 (at_ 14 _ _ rfl rfl)
  obtain ⟨n15, rfl⟩ := cell_bool Try.underlying4 (at_ 15 _ _ rfl rfl)
  obtain ⟨n16, rfl⟩ := cell_int Try.underlying27 (at_ 16 _ _ rfl rfl)
  obtain ⟨n17, rfl⟩ := cell_int Try.underlying3 (at_ 17 _ _ rfl rfl)
  obtain ⟨n18, rfl⟩ := cell_int Try.underlying27 (at_ 18 _ _ rfl rfl)
  obtain ⟨n19, rfl⟩ := cell_int Try.underlying25 (at_ 19 _ _ rfl rfl)
  obtain ⟨n20, rfl⟩ := cell_int Try.underlying25 (at_ 20 _ _ rfl rfl)
  exact ⟨⟨n0, n1, n2, n3, n4, n5, n6, n7, n8, n9, n10, n11, n12, n13, n14, n15, n16, n17, n18, n19, n20⟩, rfl⟩
end

end Go.Proofs.Ythhajknmokomjaa
