/- A list of communities that came in: what its cells hold. -/
import Derived.Test.YtofbgpgngplgpaaDoorCmO
import Derived.Deep.Slices
namespace Go.Proofs.YtofbgpgngplgpaaDoor
open Go.ChangeShapes Go.WideShapes Go.ChangeAt Go.RowKit Go.Joins
set_option linter.unusedVariables false
set_option maxRecDepth 100000

/-- The cells of the community at i. -/
def CAt (w : World) (ad : Addr) (i : Nat) (x : C8) : Prop :=
  w.cell? (ad.add (i * 8)) = some (.int .u8 x.a) ∧ w.cell? (ad.add (i * 8 + 1)) = some (.int .u8 x.b) ∧ w.cell? (ad.add (i * 8 + 2)) = some (.int .u8 x.c) ∧ w.cell? (ad.add (i * 8 + 3)) = some (.int .u8 x.d) ∧ w.cell? (ad.add (i * 8 + 4)) = some (.int .u8 x.e) ∧ w.cell? (ad.add (i * 8 + 5)) = some (.int .u8 x.f) ∧ w.cell? (ad.add (i * 8 + 6)) = some (.int .u8 x.g) ∧ w.cell? (ad.add (i * 8 + 7)) = some (.int .u8 x.h)

theorem cms_of_at {w : World} {ad : Addr} {c : Nat} {L : List C8} (h0 : 0 < L.length) (h : ∀ i (hi : i < L.length), CAt w ad i L[i]) : Cms w (.slice (some ad) L.length c) L := by
  obtain ⟨b, o, spot⟩ := ad
  have hspot : spot = none := by
    have h1 := (h 0 h0).1
    simpa [Addr.add] using World.cell?_spot h1
  subst hspot
  have e : ∀ j, (⟨b, o, none⟩ : Addr).add j = ⟨b, o + j, none⟩ := fun j => by
    unfold Addr.add
    split
    · rename_i h9; simp_all
    · rfl
  refine .inr ⟨b, o, c, rfl, fun i hi => ?_⟩
  obtain ⟨q0, q1, q2, q3, q4, q5, q6, q7⟩ := h i hi
  rw [e] at q0 q1 q2 q3 q4 q5 q6 q7
  exact ⟨q0, q1, q2, q3, q4, q5, q6, q7⟩

theorem open_comms {H : Type} {enc : TypeId × Value → H} {W : World} {base : Nat} {v : Value} {d : DataW H} {p : List MemPlace} (hv : Value.okWide Tryd.prog W .any base 35 v) (h : DataW.Trod enc Tryd.prog W 0 (fun _ => true) true 35 v d p) :
    ∃ L A c, v = .slice A L.length c ∧ (0 < L.length → Cms W v L) ∧ (∀ x ∈ L, x.ok) ∧ L.length ≤ maxLen := by
  obtain ⟨A, n, c, rfl⟩ := okWide_slice Tryd.underlying35 hv
  obtain ⟨fuel, hf⟩ := h
  rcases Go.Deep.open_slice Tryd.underlying35 hf with ⟨hcs, _⟩ | ⟨a, len, cap, m, q, D, Pl, hcs, _, hl, hm, hmm, _, hall⟩
  · simp [Value.cells] at hcs
    obtain ⟨rfl, rfl, rfl⟩ := hcs
    exact ⟨[], none, 0, rfl, fun h => by simp at h, by simp, by simp⟩
  · simp [Value.cells] at hcs
    obtain ⟨rfl, rfl, rfl⟩ := hcs
    have hnm : n ≤ m := by rw [hmm]; split <;> omega
    have key : ∀ i, ∃ x : C8, i < m → (CAt W a i x ∧ x.ok) := by
      intro i
      by_cases hi : i < m
      · obtain ⟨cs', h1, h2⟩ := hall i hi
        rw [cellsComm] at h1
        obtain ⟨_, hlen, hcell⟩ := World.cells?_some h1
        obtain ⟨xs, k, hk, hx, _, hxl, hfs⟩ := DataW.trod_array Tryd.underlying24 h2
        obtain ⟨v0, v1, v2, v3, v4, v5, v6, v7, rfl⟩ := l8 cs' hlen
        obtain ⟨y0, y1, y2, y3, y4, y5, y6, y7, rfl⟩ := l8 xs hxl
        rw [cellsByte] at hfs
        have t0 := hfs 0 (by omega)
        have t1 := hfs 1 (by omega)
        have t2 := hfs 2 (by omega)
        have t3 := hfs 3 (by omega)
        have t4 := hfs 4 (by omega)
        have t5 := hfs 5 (by omega)
        have t6 := hfs 6 (by omega)
        have t7 := hfs 7 (by omega)
        clear hfs
        simp at t0 t1 t2 t3 t4 t5 t6 t7
        have e0 := hcell 0 (by omega)
        have e1 := hcell 1 (by omega)
        have e2 := hcell 2 (by omega)
        have e3 := hcell 3 (by omega)
        have e4 := hcell 4 (by omega)
        have e5 := hcell 5 (by omega)
        have e6 := hcell 6 (by omega)
        have e7 := hcell 7 (by omega)
        rw [Go.Deep.add_add] at e0 e1 e2 e3 e4 e5 e6 e7
        obtain ⟨a0, x0, _, w0⟩ := DataW.trod_int Tryd.underlying5 t0
        obtain ⟨a1, x1, _, w1⟩ := DataW.trod_int Tryd.underlying5 t1
        obtain ⟨a2, x2, _, w2⟩ := DataW.trod_int Tryd.underlying5 t2
        obtain ⟨a3, x3, _, w3⟩ := DataW.trod_int Tryd.underlying5 t3
        obtain ⟨a4, x4, _, w4⟩ := DataW.trod_int Tryd.underlying5 t4
        obtain ⟨a5, x5, _, w5⟩ := DataW.trod_int Tryd.underlying5 t5
        obtain ⟨a6, x6, _, w6⟩ := DataW.trod_int Tryd.underlying5 t6
        obtain ⟨a7, x7, _, w7⟩ := DataW.trod_int Tryd.underlying5 t7
        simp at x0 x1 x2 x3 x4 x5 x6 x7
        subst x0 x1 x2 x3 x4 x5 x6 x7
        simp [Lit.wf, IntKind.min, IntKind.max, IntKind.signed, IntKind.bits] at w2 w3 w4 w5 w6 w7
        refine ⟨⟨a0, a1, a2, a3, a4, a5, a6, a7⟩, fun _ => ⟨⟨by simpa using e0, by simpa using e1, by simpa using e2, by simpa using e3, by simpa using e4, by simpa using e5, by simpa using e6, by simpa using e7⟩, ?_⟩⟩
        unfold C8.ok
        simp only
        omega
      · exact ⟨⟨0, 0, 0, 0, 0, 0, 0, 0⟩, fun h => absurd h hi⟩
    have hlen : ((List.range n).map (fun i => Classical.choose (key i))).length = n := by simp
    refine ⟨(List.range n).map (fun i => Classical.choose (key i)), some a, c, by rw [hlen], fun h0 => ?_, ?_, by rw [hlen]; omega⟩
    · have := cms_of_at (w := W) (ad := a) (c := c) (L := (List.range n).map (fun i => Classical.choose (key i))) h0 (fun i hi => by
        simp only [List.length_map, List.length_range] at hi
        have := (Classical.choose_spec (key i) (by omega)).1
        simpa using this)
      rw [hlen] at this
      exact this
    · intro x hx
      simp only [List.mem_map, List.mem_range] at hx
      obtain ⟨i, hi, rfl⟩ := hx
      exact (Classical.choose_spec (key i) (by omega)).2

end Go.Proofs.YtofbgpgngplgpaaDoor
