/- A list of routes that came in: what its cells hold. -/
import Derived.Test.YthhajknmokomjaaZNoT
import Derived.Test.YthhajknmokomjaaZNrL
import Derived.Deep.Slices
namespace Go.Proofs.Ythhajknmokomjaa
open Go.ChangeShapes Go.WideShapes Go.ChangeAt Go.RowKit
set_option linter.unusedVariables false
set_option linter.unusedSimpArgs false
set_option maxRecDepth 100000

theorem cellsOfs : Try.prog.cellsOf 3 = 1 ∧ Try.prog.cellsOf 22 = 1 ∧ Try.prog.cellsOf 24 = 10 ∧ Try.prog.cellsOf 25 = 1 ∧ Try.prog.cellsOf 26 = 1 ∧ Try.prog.cellsOf 27 = 1 ∧ Try.prog.cellsOf 4 = 1 ∧ Try.prog.cellsOf 29 = 2 ∧ Try.prog.cellsOf 5 = 1 := by refine ⟨?_, ?_, ?_, ?_, ?_, ?_, ?_, ?_, ?_⟩ <;> kernel_rfl
theorem list11 {α : Type} (l : List α) (h : l.length = 11) : ∃ a b c d e f g h i j k, l = [a, b, c, d, e, f, g, h, i, j, k] := by
  match l, h with
  | [a, b, c, d, e, f, g, h, i, j, k], _ => exact ⟨a, b, c, d, e, f, g, h, i, j, k, rfl⟩
theorem list2 {α : Type} (l : List α) (h : l.length = 2) : ∃ a b, l = [a, b] := by
  match l, h with
  | [a, b], _ => exact ⟨a, b, rfl⟩

theorem lit_u8 {n : Int} (h : (Lit.int .u8 n).wf = true) : 0 ≤ n ∧ n ≤ 255 := by
  simpa [Lit.wf, IntKind.min, IntKind.max, IntKind.signed, IntKind.bits] using h
theorem lit_u32 {n : Int} (h : (Lit.int .u32 n).wf = true) : 0 ≤ n ∧ n < 4294967296 := by
  have h' : 0 ≤ n ∧ n ≤ 4294967295 := by simpa [Lit.wf, IntKind.min, IntKind.max, IntKind.signed, IntKind.bits] using h
  omega
theorem lit_u64 {n : Int} (h : (Lit.int .u64 n).wf = true) : 0 ≤ n ∧ n < 18446744073709551616 := by
  have h' : 0 ≤ n ∧ n ≤ 18446744073709551615 := by simpa [Lit.wf, IntKind.min, IntKind.max, IntKind.signed, IntKind.bits] using h
  omega

section
variable {H : Type} {enc : TypeId × Value → H} {W : World} {base : Nat}
theorem trod_esi {sp : Nat → Bool} {held : Bool} {fuel : Nat} {cs : List Value} {x : DataW H × List MemPlace} (h : DataW.trod enc Try.prog W base sp held fuel 24 cs = some x) :
    ∃ b0 b1 b2 b3 b4 b5 b6 b7 b8 b9 : Int, cs = [.int .u8 b0, .int .u8 b1, .int .u8 b2, .int .u8 b3, .int .u8 b4, .int .u8 b5, .int .u8 b6, .int .u8 b7, .int .u8 b8, .int .u8 b9] ∧ ∀ v ∈ [b0, b1, b2, b3, b4, b5, b6, b7, b8, b9], 0 ≤ v ∧ v ≤ 255 := by
  obtain ⟨xs, k, hk, hx, hl, hxl, hfs⟩ := DataW.trod_array Try.underlying24 h
  rw [cellsOfs.2.2.1] at hl
  obtain ⟨c0, c1, c2, c3, c4, c5, c6, c7, c8, c9, rfl⟩ := list10 cs hl
  obtain ⟨y0, y1, y2, y3, y4, y5, y6, y7, y8, y9, rfl⟩ := list10 xs hxl
  rw [cellsOfs.2.2.2.2.2.2.2.2] at hfs
  have t0 := hfs 0 (by omega)
  have t1 := hfs 1 (by omega)
  have t2 := hfs 2 (by omega)
  have t3 := hfs 3 (by omega)
  have t4 := hfs 4 (by omega)
  have t5 := hfs 5 (by omega)
  have t6 := hfs 6 (by omega)
  have t7 := hfs 7 (by omega)
  have t8 := hfs 8 (by omega)
  have t9 := hfs 9 (by omega)
  clear hfs
  simp at t0 t1 t2 t3 t4 t5 t6 t7 t8 t9
  obtain ⟨a0, x0, _, w0⟩ := DataW.trod_int Try.underlying5 t0
  obtain ⟨a1, x1, _, w1⟩ := DataW.trod_int Try.underlying5 t1
  obtain ⟨a2, x2, _, w2⟩ := DataW.trod_int Try.underlying5 t2
  obtain ⟨a3, x3, _, w3⟩ := DataW.trod_int Try.underlying5 t3
  obtain ⟨a4, x4, _, w4⟩ := DataW.trod_int Try.underlying5 t4
  obtain ⟨a5, x5, _, w5⟩ := DataW.trod_int Try.underlying5 t5
  obtain ⟨a6, x6, _, w6⟩ := DataW.trod_int Try.underlying5 t6
  obtain ⟨a7, x7, _, w7⟩ := DataW.trod_int Try.underlying5 t7
  obtain ⟨a8, x8, _, w8⟩ := DataW.trod_int Try.underlying5 t8
  obtain ⟨a9, x9, _, w9⟩ := DataW.trod_int Try.underlying5 t9
  simp at x0 x1 x2 x3 x4 x5 x6 x7 x8 x9
  subst x0 x1 x2 x3 x4 x5 x6 x7 x8 x9
  refine ⟨a0, a1, a2, a3, a4, a5, a6, a7, a8, a9, rfl, fun v hv => ?_⟩
  simp only [List.mem_cons, List.not_mem_nil, or_false] at hv
  rcases hv with rfl | rfl | rfl | rfl | rfl | rfl | rfl | rfl | rfl | rfl <;> exact lit_u8 (by assumption)
theorem trod_pfx {sp : Nat → Bool} {held : Bool} {fuel : Nat} {cs : List Value} {x : DataW H × List MemPlace} (h : DataW.trod enc Try.prog W base sp held fuel 29 cs = some x) :
    ∃ p l : Int, cs = [.int .u32 p, .int .i64 l] ∧ (0 ≤ p ∧ p < 4294967296) := by
  obtain ⟨xs, k, hk, hx, hl, hxl, hfs⟩ := DataW.trod_struct Try.underlying29 h
  rw [cellsOfs.2.2.2.2.2.2.2.1] at hl
  obtain ⟨c0, c1, rfl⟩ := list2 cs hl
  obtain ⟨y0, y1, rfl⟩ := list2 xs hxl
  have t0 := hfs 0 _ rfl
  have t1 := hfs 1 _ rfl
  clear hfs
  simp [cellsOfs] at t0 t1
  obtain ⟨a0, x0, _, w0⟩ := DataW.trod_int Try.underlying27 t0
  obtain ⟨a1, x1, _, w1⟩ := DataW.trod_int Try.underlying3 t1
  simp at x0 x1
  subst x0 x1
  exact ⟨a0, a1, rfl, lit_u32 w0⟩
theorem trod_nl {sp : Nat → Bool} {held : Bool} {fuel : Nat} {cs : List Value} {x : DataW H × List MemPlace} (h : DataW.trod enc Try.prog W base sp held fuel 31 cs = some x) :
    ∃ n : NL, cs = n.l ∧ n.ty := by
  obtain ⟨xs, k, hk, hx, hl, hxl, hfs⟩ := DataW.trod_struct Try.underlying31 h
  rw [cellsNl] at hl
  obtain ⟨c0, c1, c2, c3, c4, c5, c6, c7, c8, c9, c10, c11, c12, c13, c14, c15, c16, c17, c18, c19, c20, rfl⟩ := list21 cs hl
  obtain ⟨y0, y1, y2, y3, y4, y5, y6, y7, y8, y9, y10, rfl⟩ := list11 xs hxl
  have t0 := hfs 0 _ rfl
  have t1 := hfs 1 _ rfl
  have t2 := hfs 2 _ rfl
  have t3 := hfs 3 _ rfl
  have t4 := hfs 4 _ rfl
  have t5 := hfs 5 _ rfl
  have t6 := hfs 6 _ rfl
  have t7 := hfs 7 _ rfl
  have t8 := hfs 8 _ rfl
  have t9 := hfs 9 _ rfl
  have t10 := hfs 10 _ rfl
  clear hfs
  simp [cellsOfs] at t0 t1 t2 t3 t4 t5 t6 t7 t8 t9 t10
  obtain ⟨a0, x0, _, w0⟩ := DataW.trod_int Try.underlying3 t0
  obtain ⟨a1, x1, _, w1⟩ := DataW.trod_int Try.underlying22 t1
  obtain ⟨b0, b1, b2, b3, b4, b5, b6, b7, b8, b9, x2, w2⟩ := trod_esi t2
  obtain ⟨a3, x3, _, w3⟩ := DataW.trod_int Try.underlying25 t3
  obtain ⟨a4, x4, _, w4⟩ := DataW.trod_int Try.underlying26 t4
  obtain ⟨a5, x5, _, w5⟩ := DataW.trod_int Try.underlying27 t5
  obtain ⟨a6, x6, _⟩ := DataW.trod_bool Try.underlying4 t6
  obtain ⟨p, l, x7, w7⟩ := trod_pfx t7
  obtain ⟨a8, x8, _, w8⟩ := DataW.trod_int Try.underlying27 t8
  obtain ⟨a9, x9, _, w9⟩ := DataW.trod_int Try.underlying25 t9
  obtain ⟨a10, x10, _, w10⟩ := DataW.trod_int Try.underlying25 t10
  simp at x0 x1 x2 x3 x4 x5 x6 x7 x8 x9 x10
  obtain ⟨rfl, rfl, rfl, rfl, rfl, rfl, rfl, rfl, rfl, rfl⟩ := x2
  obtain ⟨rfl, rfl⟩ := x7
  subst x0 x1 x3 x4 x5 x6 x8 x9 x10
  exact ⟨⟨a0, a1, b0, b1, b2, b3, b4, b5, b6, b7, b8, b9, a3, a4, a5, a6, p, l, a8, a9, a10⟩, rfl, w0, lit_u64 w1, w2, lit_u32 w3, lit_u64 w4, lit_u32 w5, w7, lit_u32 w8, lit_u32 w9, lit_u32 w10⟩
end

theorem nls_of_at {w : World} {ad : Addr} {c : Nat} {L : List NL} (h0 : 0 < L.length) (h : ∀ i (hi : i < L.length), ∀ j, j < 21 → w.cell? (ad.add (i * 21 + j)) = L[i].l[j]?) : Nls w (.slice (some ad) L.length c) L := by
  obtain ⟨b, o, spot⟩ := ad
  have hspot : spot = none := by
    have h1 := h 0 h0 0 (by omega)
    have h2 : (L[0].l)[0]? = some (.int .i64 L[0].k) := rfl
    rw [h2] at h1
    simpa [Addr.add] using World.cell?_spot h1
  subst hspot
  have e : ∀ j, (⟨b, o, none⟩ : Addr).add j = ⟨b, o + j, none⟩ := fun j => by
    unfold Addr.add
    split
    · rename_i h9; simp_all
    · rfl
  refine .inr ⟨b, o, c, rfl, fun q u hu => ?_⟩
  have hq : q < L.length * 21 := by
    have := (List.getElem?_eq_some_iff.1 hu).1
    rwa [flatN_len] at this
  have e1 : q = q / 21 * 21 + q % 21 := by omega
  have hqi : q / 21 < L.length := by omega
  have h1 := h (q / 21) hqi (q % 21) (Nat.mod_lt _ (by omega))
  rw [e, ← e1] at h1
  rw [h1, ← hu]
  conv => rhs; rw [e1]
  rw [flatN_at L _ hqi _ (Nat.mod_lt _ (by omega))]

theorem open_nls {H : Type} {enc : TypeId × Value → H} {W : World} {base : Nat} {v : Value} {d : DataW H} {p : List MemPlace} (hv : Value.okWide Try.prog W .any base 45 v) (h : DataW.Trod enc Try.prog W 0 (fun _ => true) true 45 v d p) :
    ∃ L A c, v = .slice A L.length c ∧ (0 < L.length → Nls W v L) ∧ (∀ x ∈ L, x.ty) ∧ L.length ≤ c ∧ c ≤ maxLen := by
  obtain ⟨A, n, c, rfl⟩ := okWide_slice Try.underlying45 hv
  obtain ⟨fuel, hf⟩ := h
  rcases Go.Deep.open_slice Try.underlying45 hf with ⟨hcs, _⟩ | ⟨a, len, cap, m, q, D, Pl, hcs, _, hl, hm, hmm, _, hall⟩
  · simp [Value.cells] at hcs
    obtain ⟨rfl, rfl, rfl⟩ := hcs
    exact ⟨[], none, 0, rfl, fun h => by simp at h, by simp, by simp, by simp⟩
  · simp [Value.cells] at hcs
    obtain ⟨rfl, rfl, rfl⟩ := hcs
    have hnm : n ≤ m := by rw [hmm]; split <;> omega
    have key : ∀ i, ∃ x : NL, i < m → ((∀ j, j < 21 → W.cell? (a.add (i * 21 + j)) = x.l[j]?) ∧ x.ty) := by
      intro i
      by_cases hi : i < m
      · obtain ⟨cs', h1, h2⟩ := hall i hi
        rw [cellsNl] at h1
        obtain ⟨_, hlen, hcell⟩ := World.cells?_some h1
        obtain ⟨x, rfl, hx⟩ := trod_nl h2
        refine ⟨x, fun _ => ⟨fun j hj => ?_, hx⟩⟩
        have := hcell j hj
        rwa [Go.Deep.add_add] at this
      · exact ⟨nl0, fun h => absurd h hi⟩
    have hlen : ((List.range n).map (fun i => Classical.choose (key i))).length = n := by simp
    refine ⟨(List.range n).map (fun i => Classical.choose (key i)), some a, c, by rw [hlen], fun h0 => ?_, ?_, by rw [hlen]; exact hl, hm⟩
    · have := nls_of_at (w := W) (ad := a) (c := c) (L := (List.range n).map (fun i => Classical.choose (key i))) h0 (fun i hi => by
        simp only [List.length_map, List.length_range] at hi
        have := (Classical.choose_spec (key i) (by omega)).1
        simpa using this)
      rw [hlen] at this
      exact this
    · intro x hx
      simp only [List.mem_map, List.mem_range] at hx
      obtain ⟨i, hi, rfl⟩ := hx
      exact (Classical.choose_spec (key i) (by omega)).2

end Go.Proofs.Ythhajknmokomjaa
