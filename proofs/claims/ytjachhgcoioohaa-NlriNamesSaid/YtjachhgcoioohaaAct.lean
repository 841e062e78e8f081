/- A list of calls of a writer that came in: what its cells hold. -/
import Derived.Test.YtjachhgcoioohaaOpn
import Derived.Test.YtjachhgcoioohaaLwB
import Derived.Deep.Slices
import Derived.Deep.Fields
namespace Go.Proofs.Ytjachhgcoioohaa
open Go.RowKit Go.WideShapes Go.ChangeShapes
set_option linter.unusedVariables false
set_option maxRecDepth 100000

/-- A call: its kind, its offset, its number, its bytes. -/
structure ActV where
  k : Int
  a : Int
  n : Int
  A : Option Addr
  c : Nat
  bs : List Int

structure ActIs (w : World) (ad : Addr) (i : Nat) (x : ActV) : Prop where
  c0 : w.cell? (ad.add (i * 4)) = some (.int .i64 x.k)
  c1 : w.cell? (ad.add (i * 4 + 1)) = some (.int .i64 x.a)
  c2 : w.cell? (ad.add (i * 4 + 2)) = some (.int .u64 x.n)
  c3 : w.cell? (ad.add (i * 4 + 3)) = some (.slice x.A x.bs.length x.c)
  ok1 : (Lit.int .i64 x.a).wf = true
  ok2 : 0 ≤ x.n ∧ x.n < 18446744073709551616
  ok3 : Arr w (.slice x.A x.bs.length x.c) x.bs ∧ (∀ u ∈ x.bs, 0 ≤ u ∧ u ≤ 255) ∧ x.bs.length ≤ maxLen

def Acts (w : World) (v : Value) (ks : List ActV) : Prop := (v = .slice none 0 0 ∧ ks = []) ∨ ∃ ad c, v = .slice (some ad) ks.length c ∧ ∀ i (hi : i < ks.length), ActIs w ad i ks[i]

theorem cells_int_a : Try.prog.cellsOf 3 = 1 := by kernel_rfl
theorem cells_u64_a : Try.prog.cellsOf 27 = 1 := by kernel_rfl
theorem cells_sl_a : Try.prog.cellsOf 23 = 1 := by kernel_rfl

theorem open_arr1 {H : Type} {enc : TypeId × Value → H} {W : World} {v : Value} {x : DataW H × List MemPlace} {n : Nat} (hf : DataW.trod enc Try.prog W 0 (fun _ => true) true n 23 [v] = some x) :
    ∃ xs A c, v = .slice A xs.length c ∧ Arr W v xs ∧ (∀ u ∈ xs, 0 ≤ u ∧ u ≤ 255) ∧ xs.length ≤ maxLen := by
  rcases open_ints Try.underlying23 Try.underlying5 cells_u8 hf with ⟨hcs, _⟩ | ⟨a, n, c, zs, hcs, _, hl, hm, hz, _, hcell, hwf⟩
  · injection hcs with hcs
    subst hcs
    exact ⟨[], none, 0, rfl, .inl ⟨rfl, rfl⟩, by simp, by simp⟩
  · injection hcs with hcs
    subst hcs
    simp only [if_true] at hz
    have hlen : (zs.take n).length = n := by simp; omega
    refine ⟨zs.take n, some a, c, by rw [hlen], .inr ⟨a, c, by rw [hlen], ?_⟩, ?_, by rw [hlen]; omega⟩
    · intro j u hu
      rw [List.getElem?_map] at hu
      obtain ⟨x, hx, rfl⟩ := Option.map_eq_some_iff.1 hu
      obtain ⟨hj, rfl⟩ := List.getElem?_eq_some_iff.1 hx
      have hj2 : j < n := by rw [hlen] at hj; exact hj
      rw [hcell j (by omega), List.getElem_take]
      simp [List.getD, show j < zs.length by omega]
    · intro u hu
      have := hwf u (List.mem_of_mem_take hu)
      simp [Lit.wf, IntKind.min, IntKind.max, IntKind.signed, IntKind.bits] at this
      omega

/-- One call's cells, at plain addresses. -/
structure ActAt (w : World) (b o : Nat) (x : ActV) : Prop where
  c0 : w.cell? ⟨b, o, none⟩ = some (.int .i64 x.k)
  c1 : w.cell? ⟨b, o + 1, none⟩ = some (.int .i64 x.a)
  c2 : w.cell? ⟨b, o + 2, none⟩ = some (.int .u64 x.n)
  c3 : w.cell? ⟨b, o + 3, none⟩ = some (.slice x.A x.bs.length x.c)
  lt : b < w.heap.size

theorem Acts.at_ {w : World} {A : Option Addr} {c n : Nat} {ks : List ActV} (h : Acts w (.slice A n c) ks) (hn : 0 < ks.length) : ∃ b o, A = some ⟨b, o, none⟩ ∧ n = ks.length ∧ ∀ i (hi : i < ks.length), ActAt w b (o + i * 4) ks[i] := by
  rcases h with ⟨_, h0⟩ | ⟨ad, c', h1, h2⟩
  · subst h0
    simp at hn
  · injection h1 with h1 h3 _
    obtain ⟨b, o, spot⟩ := ad
    have hspot : spot = none := by
      have h0 := (h2 0 hn).c0
      simpa [Addr.add] using World.cell?_spot h0
    subst hspot
    refine ⟨b, o, h1, h3, fun i hi => ?_⟩
    have h4 := h2 i hi
    have e : ∀ j, (⟨b, o, none⟩ : Addr).add j = ⟨b, o + j, none⟩ := fun j => by
      unfold Addr.add
      split
      · rename_i h0
        simp_all
      · rfl
    have a0 := h4.c0
    have a1 := h4.c1
    have a2 := h4.c2
    have a3 := h4.c3
    rw [e] at a0 a1 a2 a3
    exact ⟨a0, by rw [Nat.add_assoc]; exact a1, by rw [Nat.add_assoc]; exact a2, by rw [Nat.add_assoc]; exact a3, World.block_lt_of_cell? w _ a0⟩

theorem ActAt.below {w w' : World} {b o : Nat} {x : ActV} (h : ActAt w b o x) (hb : Below w.heap.size w w') : ActAt w' b o x :=
  ⟨(hb.cell (p := ⟨b, o, none⟩) h.lt).trans h.c0, (hb.cell (p := ⟨b, o + 1, none⟩) h.lt).trans h.c1, (hb.cell (p := ⟨b, o + 2, none⟩) h.lt).trans h.c2, (hb.cell (p := ⟨b, o + 3, none⟩) h.lt).trans h.c3, Nat.lt_of_lt_of_le h.lt hb.size⟩

end Go.Proofs.Ytjachhgcoioohaa
