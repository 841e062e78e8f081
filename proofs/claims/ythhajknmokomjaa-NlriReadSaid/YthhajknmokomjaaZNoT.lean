/- Routes: a route as an argument, opened, with the ranges of its fields. -/
import Derived.Test.YthhajknmokomjaaZNoO
import Derived.Test.YthhajknmokomjaaZNlG
namespace Go.Proofs.Ythhajknmokomjaa
open Go.ChangeShapes Go.WideShapes Go.ChangeAt Go.RowKit
set_option maxRecDepth 100000
set_option linter.unusedVariables false

section
variable {W : World} {base : Nat}
theorem cell_has {t : TypeId} {k : IntKind} {v : Value} (ht : Try.prog.underlying t = some (.int k)) (h : Cell.okWide Try.prog W .any base t v) : ∃ n, v = .int k n ∧ k.has n := by
  simp only [Cell.okWide, ht] at h
  cases v <;> simp_all [Cell.ok]
theorem has_u8 {n : Int} (h : IntKind.u8.has n) : 0 ≤ n ∧ n ≤ 255 := h
theorem has_u32 {n : Int} (h : IntKind.u32.has n) : 0 ≤ n ∧ n < 4294967296 := by
  have h' : 0 ≤ n ∧ n ≤ 4294967295 := h
  omega
theorem has_u64 {n : Int} (h : IntKind.u64.has n) : 0 ≤ n ∧ n < 18446744073709551616 := by
  have h' : 0 ≤ n ∧ n ≤ 18446744073709551615 := h
  omega
theorem has_wf {n : Int} (h : IntKind.i64.has n) : (Lit.int .i64 n).wf = true := by
  simpa [Lit.wf, IntKind.has] using h

theorem open_nlt {v : Value} (hv : Value.okWide Try.prog W .any base 31 v) : ∃ x : NL, v = .agg x.cs ∧ x.ty := by
  obtain ⟨cs, rfl, hsz, ts, hts, _, hc⟩ : ∃ cs, v = .agg cs ∧ cs.size = Try.prog.cellsOf 31 ∧ Row.okWide Try.prog W .any base 31 cs := by
    simpa [Value.okWide, Try.underlying31] using hv
  rw [cellsNl] at hsz
  rw [typesNl] at hts
  injection hts with hts
  subst hts
  obtain ⟨l⟩ := cs
  obtain ⟨c0, c1, c2, c3, c4, c5, c6, c7, c8, c9, c10, c11, c12, c13, c14, c15, c16, c17, c18, c19, c20, rfl⟩ := list21 l (by simpa using hsz)
  have at_ : ∀ (i : Nat) (v : Value) (u : TypeId), (#[c0, c1, c2, c3, c4, c5, c6, c7, c8, c9, c10, c11, c12, c13, c14, c15, c16, c17, c18, c19, c20] : Array Value)[i]? = some v → [3, 22, 5, 5, 5, 5, 5, 5, 5, 5, 5, 5, 25, 26, 27, 4, 27, 3, 27, 25, 25][i % 21]? = some u → Cell.okWide Try.prog W .any base u v := fun i v u h1 h2 => by
    obtain ⟨u', h3, h4⟩ := hc i v h1
    have h5 : some u' = some u := h3.symm.trans h2
    injection h5 with h5
    exact h5 ▸ h4
  obtain ⟨n0, rfl, h0⟩ := cell_has Try.underlying3 (at_ 0 _ _ rfl rfl)
  obtain ⟨n1, rfl, h1⟩ := cell_has Try.underlying22 (at_ 1 _ _ rfl rfl)
  obtain ⟨n2, rfl, h2⟩ := cell_has Try.underlying5 (at_ 2 _ _ rfl rfl)
  obtain ⟨n3, rfl, h3⟩ := cell_has Try.underlying5 (at_ 3 _ _ rfl rfl)
  obtain ⟨n4, rfl, h4⟩ := cell_has Try.underlying5 (at_ 4 _ _ rfl rfl)
  obtain ⟨n5, rfl, h5⟩ := cell_has Try.underlying5 (at_ 5 _ _ rfl rfl)
  obtain ⟨n6, rfl, h6⟩ := cell_has Try.underlying5 (at_ 6 _ _ rfl rfl)
  obtain ⟨n7, rfl, h7⟩ := cell_has Try.underlying5 (at_ 7 _ _ rfl rfl)
  obtain ⟨n8, rfl, h8⟩ := cell_has Try.underlying5 (at_ 8 _ _ rfl rfl)
  obtain ⟨n9, rfl, h9⟩ := cell_has Try.underlying5 (at_ 9 _ _ rfl rfl)
  obtain ⟨n10, rfl, h10⟩ := cell_has Try.underlying5 (at_ 10 _ _ rfl rfl)
  obtain ⟨n11, rfl, h11⟩ := cell_has Try.underlying5 (at_ 11 _ _ rfl rfl)
  obtain ⟨n12, rfl, h12⟩ := cell_has Try.underlying25 (at_ 12 _ _ rfl rfl)
  obtain ⟨n13, rfl, h13⟩ := cell_has Try.underlying26 (at_ 13 _ _ rfl rfl)
  obtain ⟨n14, rfl, h14⟩ := cell_has Try.underlying27 (at_ 14 _ _ rfl rfl)
  obtain ⟨n15, rfl⟩ := cell_bool Try.underlying4 (at_ 15 _ _ rfl rfl)
  obtain ⟨n16, rfl, h16⟩ := cell_has Try.underlying27 (at_ 16 _ _ rfl rfl)
  obtain ⟨n17, rfl, h17⟩ := cell_has Try.underlying3 (at_ 17 _ _ rfl rfl)
  obtain ⟨n18, rfl, h18⟩ := cell_has Try.underlying27 (at_ 18 _ _ rfl rfl)
  obtain ⟨n19, rfl, h19⟩ := cell_has Try.underlying25 (at_ 19 _ _ rfl rfl)
  obtain ⟨n20, rfl, h20⟩ := cell_has Try.underlying25 (at_ 20 _ _ rfl rfl)
  refine ⟨⟨n0, n1, n2, n3, n4, n5, n6, n7, n8, n9, n10, n11, n12, n13, n14, n15, n16, n17, n18, n19, n20⟩, rfl, has_wf h0, has_u64 h1, ?_, has_u32 h12, has_u64 h13, has_u32 h14, has_u32 h16, has_u32 h18, has_u32 h19, has_u32 h20⟩
  intro v hv
  simp only [NL.esi, List.mem_cons, List.not_mem_nil, or_false] at hv
  rcases hv with rfl | rfl | rfl | rfl | rfl | rfl | rfl | rfl | rfl | rfl
  · exact has_u8 h2
  · exact has_u8 h3
  · exact has_u8 h4
  · exact has_u8 h5
  · exact has_u8 h6
  · exact has_u8 h7
  · exact has_u8 h8
  · exact has_u8 h9
  · exact has_u8 h10
  · exact has_u8 h11
end

end Go.Proofs.Ythhajknmokomjaa
