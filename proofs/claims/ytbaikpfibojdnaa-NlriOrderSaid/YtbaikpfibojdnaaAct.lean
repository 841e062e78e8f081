/- A list of calls of a writer that came in: what its cells hold. -/
import Derived.Test.YtbaikpfibojdnaaOpn
import Derived.Test.YtbaikpfibojdnaaLwB
import Derived.Deep.Slices
import Derived.Deep.Fields
namespace Go.Proofs.Ytbaikpfibojdnaa
open Go.RowKit Go.WideShapes Go.ChangeShapes
set_option linter.unusedVariables false
set_option maxRecDepth 100000

/-- A call: its kind, its offset, its number, its bytes. -/
structure ActV where
  k : Int
  a : Int
  n : Int
  A : Option Addr
  c : Nat
  bs : List Int

structure ActIs (w : World) (ad : Addr) (i : Nat) (x : ActV) : Prop where
  c0 : w.cell? (ad.add (i * 4)) = some (.int .i64 x.k)
  c1 : w.cell? (ad.add (i * 4 + 1)) = some (.int .i64 x.a)
  c2 : w.cell? (ad.add (i * 4 + 2)) = some (.int .u64 x.n)
  c3 : w.cell? (ad.add (i * 4 + 3)) = some (.slice x.A x.bs.length x.c)
  ok1 : (Lit.int .i64 x.a).wf = true
  ok2 : 0 ≤ x.n ∧ x.n < 18446744073709551616
  ok3 : Arr w (.slice x.A x.bs.length x.c) x.bs ∧ (∀ u ∈ x.bs, 0 ≤ u ∧ u ≤ 255) ∧ x.bs.length ≤ maxLen

def Acts (w : World) (v : Value) (ks : List ActV) : Prop := (v = .slice none 0 0 ∧ ks = []) ∨ ∃ ad c, v = .slice (some ad) ks.length c ∧ ∀ i (hi : i < ks.length), ActIs w ad i ks[i]

theorem cells_act : Try.prog.cellsOf 35 = 4 := by kernel_rfl
theorem cells_int_a : Try.prog.cellsOf 3 = 1 := by kernel_rfl
theorem cells_u64_a : Try.prog.cellsOf 32 = 1 := by kernel_rfl
theorem cells_sl_a : Try.prog.cellsOf 33 = 1 := by kernel_rfl

theorem open_arr1 {H : Type} {enc : TypeId × Value → H} {W : World} {v : Value} {x : DataW H × List MemPlace} {n : Nat} (hf : DataW.trod enc Try.prog W 0 (fun _ => true) true n 33 [v] = some x) :
    ∃ xs A c, v = .slice A xs.length c ∧ Arr W v xs ∧ (∀ u ∈ xs, 0 ≤ u ∧ u ≤ 255) ∧ xs.length ≤ maxLen := by
  rcases open_ints Try.underlying33 Try.underlying5 cells_u8 hf with ⟨hcs, _⟩ | ⟨a, n, c, zs, hcs, _, hl, hm, hz, _, hcell, hwf⟩
  · injection hcs with hcs
    subst hcs
    exact ⟨[], none, 0, rfl, .inl ⟨rfl, rfl⟩, by simp, by simp⟩
  · injection hcs with hcs
    subst hcs
    simp only [if_true] at hz
    have hlen : (zs.take n).length = n := by simp; omega
    refine ⟨zs.take n, some a, c, by rw [hlen], .inr ⟨a, c, by rw [hlen], ?_⟩, ?_, by rw [hlen]; omega⟩
    · intro j u hu
      rw [List.getElem?_map] at hu
      obtain ⟨x, hx, rfl⟩ := Option.map_eq_some_iff.1 hu
      obtain ⟨hj, rfl⟩ := List.getElem?_eq_some_iff.1 hx
      have hj2 : j < n := by rw [hlen] at hj; exact hj
      rw [hcell j (by omega), List.getElem_take]
      simp [List.getD, show j < zs.length by omega]
    · intro u hu
      have := hwf u (List.mem_of_mem_take hu)
      simp [Lit.wf, IntKind.min, IntKind.max, IntKind.signed, IntKind.bits] at this
      omega

theorem open_acts {H : Type} {enc : TypeId × Value → H} {W : World} {base : Nat} {v : Value} {d : DataW H} {p : List MemPlace} (hv : Value.okWide Try.prog W .any base 22 v) (h : DataW.Trod enc Try.prog W 0 (fun _ => true) true 22 v d p) :
    ∃ ks A c, v = .slice A ks.length c ∧ Acts W v ks ∧ ks.length ≤ maxLen := by
  obtain ⟨A, n, c, rfl⟩ := okWide_slice Try.underlying22 hv
  obtain ⟨fuel, hf⟩ := h
  rcases Go.Deep.open_slice Try.underlying22 hf with ⟨hcs, _⟩ | ⟨a, len, cap, m, q, D, Pl, hcs, _, hl, hm, hmm, _, hall⟩
  · simp [Value.cells] at hcs
    obtain ⟨rfl, rfl, rfl⟩ := hcs
    exact ⟨[], none, 0, rfl, .inl ⟨rfl, rfl⟩, by simp⟩
  · simp [Value.cells] at hcs
    obtain ⟨rfl, rfl, rfl⟩ := hcs
    simp only [if_true] at hmm
    subst hmm
    have key : ∀ i, ∃ x : ActV, i < m → ActIs W a i x := by
      intro i
      by_cases hi : i < m
      · obtain ⟨cs', h1, h2⟩ := hall i hi
        rw [cells_act] at h1
        obtain ⟨_, hlen, hcell⟩ := World.cells?_some h1
        obtain ⟨xs, k, hk, _, _, hxl, hfs⟩ := DataW.trod_struct Try.underlying35 h2
        match xs, hxl, cs', hlen with
        | [y0, y1, y2, y3], _, [v0, v1, v2, v3], _ =>
          have g0 := hfs 0 _ rfl
          have g1 := hfs 1 _ rfl
          have g2 := hfs 2 _ rfl
          have g3 := hfs 3 _ rfl
          simp [cells_int_a, cells_u64_a, cells_sl_a] at g0 g1 g2 g3
          have e0 := hcell 0 (by omega)
          have e1 := hcell 1 (by omega)
          have e2 := hcell 2 (by omega)
          have e3 := hcell 3 (by omega)
          rw [Go.Deep.add_add] at e0 e1 e2 e3
          obtain ⟨x0, hx0, _, hw0⟩ := DataW.trod_int Try.underlying3 g0
          obtain ⟨x1, hx1, _, hw1⟩ := DataW.trod_int Try.underlying3 g1
          obtain ⟨x2, hx2, _, hw2⟩ := DataW.trod_int Try.underlying32 g2
          obtain ⟨bs, A3, c3, hx3, ha, hb, hbl⟩ := open_arr1 g3
          injection hx0 with hx0 _
          injection hx1 with hx1 _
          injection hx2 with hx2 _
          subst hx0 hx1 hx2 hx3
          simp [Lit.wf, IntKind.min, IntKind.max, IntKind.signed, IntKind.bits] at hw2
          exact ⟨⟨x0, x1, x2, A3, c3, bs⟩, fun _ => ⟨by simpa using e0, by simpa using e1, by simpa using e2, by simpa using e3, hw1, (by show 0 ≤ x2 ∧ x2 < 18446744073709551616; omega), ha, hb, hbl⟩⟩
      · exact ⟨⟨0, 0, 0, none, 0, []⟩, fun h => absurd h hi⟩
    refine ⟨(List.range n).map (fun i => Classical.choose (key i)), some a, m, by simp, .inr ⟨a, m, by simp, fun i hi => ?_⟩, by simp; omega⟩
    simp only [List.length_map, List.length_range] at hi
    have := Classical.choose_spec (key i) (by omega)
    simpa using this

/-- One call's cells, at plain addresses. -/
structure ActAt (w : World) (b o : Nat) (x : ActV) : Prop where
  c0 : w.cell? ⟨b, o, none⟩ = some (.int .i64 x.k)
  c1 : w.cell? ⟨b, o + 1, none⟩ = some (.int .i64 x.a)
  c2 : w.cell? ⟨b, o + 2, none⟩ = some (.int .u64 x.n)
  c3 : w.cell? ⟨b, o + 3, none⟩ = some (.slice x.A x.bs.length x.c)
  lt : b < w.heap.size

theorem Acts.at_ {w : World} {A : Option Addr} {c n : Nat} {ks : List ActV} (h : Acts w (.slice A n c) ks) (hn : 0 < ks.length) : ∃ b o, A = some ⟨b, o, none⟩ ∧ n = ks.length ∧ ∀ i (hi : i < ks.length), ActAt w b (o + i * 4) ks[i] := by
  rcases h with ⟨_, h0⟩ | ⟨ad, c', h1, h2⟩
  · subst h0
    simp at hn
  · injection h1 with h1 h3 _
    obtain ⟨b, o, spot⟩ := ad
    have hspot : spot = none := by
      have h0 := (h2 0 hn).c0
      simpa [Addr.add] using World.cell?_spot h0
    subst hspot
    refine ⟨b, o, h1, h3, fun i hi => ?_⟩
    have h4 := h2 i hi
    have e : ∀ j, (⟨b, o, none⟩ : Addr).add j = ⟨b, o + j, none⟩ := fun j => by
      unfold Addr.add
      split
      · rename_i h0
        simp_all
      · rfl
    have a0 := h4.c0
    have a1 := h4.c1
    have a2 := h4.c2
    have a3 := h4.c3
    rw [e] at a0 a1 a2 a3
    exact ⟨a0, by rw [Nat.add_assoc]; exact a1, by rw [Nat.add_assoc]; exact a2, by rw [Nat.add_assoc]; exact a3, World.block_lt_of_cell? w _ a0⟩

theorem ActAt.below {w w' : World} {b o : Nat} {x : ActV} (h : ActAt w b o x) (hb : Below w.heap.size w w') : ActAt w' b o x :=
  ⟨(hb.cell (p := ⟨b, o, none⟩) h.lt).trans h.c0, (hb.cell (p := ⟨b, o + 1, none⟩) h.lt).trans h.c1, (hb.cell (p := ⟨b, o + 2, none⟩) h.lt).trans h.c2, (hb.cell (p := ⟨b, o + 3, none⟩) h.lt).trans h.c3, Nat.lt_of_lt_of_le h.lt hb.size⟩

end Go.Proofs.Ytbaikpfibojdnaa
