/- NlriBack: the walk. -/
import Derived.Test.YthhajknmokomjaaZNrM
import Derived.Deep.RegionHeld3
import Derived.Deep.AppendLies
namespace Go.Proofs.Ythhajknmokomjaa
open Go.RowKit Go.Maps Go.Shelf
set_option linter.unusedVariables false
set_option linter.unusedSimpArgs false
set_option maxRecDepth 100000

theorem own_far {w w' : World} {base size n base' size' n' : Nat} {e e' : TypeId} {v v' : Value} {xs xs' : List Value} (h : w.ownsRow base e size v n xs) (h' : w.ownsRow base' e' size' v' n' xs') (hne : e ≠ e') (hg : w.grownBy w' v'.ownBlock) : w'.ownsRow base e size v n xs := by
  refine ⟨h.1, ?_⟩
  rcases h.2 with h0 | ⟨g, cap, cur, hv, hb', hc, r⟩
  · exact .inl h0
  · subst hv
    have hh : Has w g e cur := hc
    exact .inr ⟨g, cap, cur, rfl, hb', hh.grown hg (hh.not_own hne h'), r⟩

theorem own_lt {w : World} {base size n : Nat} {e : TypeId} {v : Value} {xs : List Value} (h : w.ownsRow base e size v n xs) : ∀ g, v.ownBlock = some g → g < w.heap.size := by
  intro g hg
  rcases h.2 with ⟨h9, _⟩ | ⟨g', cap', cur', h9, _, h10, _⟩
  · rw [h9] at hg; cases hg
  · have hgg : g' = g := by rw [h9] at hg; simpa [Value.ownBlock] using hg
    have hh : Has w g' e cur' := h10
    rw [← hgg]
    exact hh.lt

/-- Two rows of one call, and nothing old turned. -/
structure XB (W3 : World) (v3 : Value) (n3 : Nat) (x3 : List Value) (v4 : Value) (n4 : Nat) (x4 : List Value) (w : World) : Prop where
  own3 : w.ownsRow W3.heap.size 5 1 v3 n3 x3
  own4 : w.ownsRow W3.heap.size 31 21 v4 n4 x4
  bel : Below W3.heap.size W3 w
theorem XB.below {W3 w w' : World} {v3 v4 : Value} {n3 n4 : Nat} {x3 x4 : List Value} (h : XB W3 v3 n3 x3 v4 n4 x4 w) (hb : Below w.heap.size w w') : XB W3 v3 n3 x3 v4 n4 x4 w' :=
  ⟨own_keep h.own3 hb, own_keep h.own4 hb, h.bel.trans (hb.mono h.bel.size)⟩
theorem XB.drew {W3 w : World} {v3 v4 : Value} {n3 n4 : Nat} {x3 x4 : List Value} (h : XB W3 v3 n3 x3 v4 n4 x4 w) : XB W3 v3 n3 x3 v4 n4 x4 w.drew := h.below (Below.refl _ w).drew
theorem XB.alloc {W3 w : World} {v3 v4 : Value} {n3 n4 : Nat} {x3 x4 : List Value} (h : XB W3 v3 n3 x3 v4 n4 x4 w) (o : Obj) : XB W3 v3 n3 x3 v4 n4 x4 (w.alloc o) := h.below ((Below.refl _ w).alloc (Nat.le_refl _) _)
theorem XB.app3 {W3 w w' : World} {v3 v4 v' : Value} {n3 n4 n' : Nat} {x3 x4 x' : List Value} (h : XB W3 v3 n3 x3 v4 n4 x4 w) (ho : w'.ownsRow W3.heap.size 5 1 v' n' x') (hg : w.grownBy w' v3.ownBlock) : XB W3 v' n' x' v4 n4 x4 w' :=
  ⟨ho, own_far h.own4 h.own3 (by decide) hg, own_bel h.own3 h.bel hg h.bel.size (Nat.le_refl _)⟩
theorem XB.app4 {W3 w w' : World} {v3 v4 v' : Value} {n3 n4 n' : Nat} {x3 x4 x' : List Value} (h : XB W3 v3 n3 x3 v4 n4 x4 w) (ho : w'.ownsRow W3.heap.size 31 21 v' n' x') (hg : w.grownBy w' v4.ownBlock) : XB W3 v3 n3 x3 v' n' x' w' :=
  ⟨own_far h.own3 h.own4 (by decide) hg, ho, own_bel h.own4 h.bel hg h.bel.size (Nat.le_refl _)⟩
theorem has_laid {w : World} {B : Nat} {x : NL} (h : Has w B 31 x.cs) : ∀ j u, x.l[j]? = some u → w.cell? ((⟨B, 0, none⟩ : Addr).add j) = some u := fun j u hu => by
  rw [Addr.add_mid, Nat.zero_add, h.cell, ← Array.getElem?_toList]
  exact hu

theorem step_build_nl {ops : Array Oper} {o : Oper} {a : Act} {w : World} {K : Act → World → Prop} {Q : Exit → Act → World → Prop} {E : Prop} (hgd : o.guard = none) (y : Operand) (hop : o.op = .buildSlice 45 1 #[(0, y)]) (x : NL) (hy : a.eval y = .agg x.cs)
    (h : K (a.put o.dst (.slice (some ⟨w.heap.size, 0, none⟩) 1 1)) (w.alloc (.cells x.cs 31))) :
    if Region.wanted o (yielded ops a.tmps) = true then Oper.wp Try.prog o a w K Q else E := by
  have hw : Region.wanted o (yielded ops a.tmps) = true := by simp [Region.wanted, hgd]
  rw [if_pos hw]
  obtain ⟨i0, hi, hz0, hz1, hz2⟩ := info_parts info_nlb
  have h21 : i0.size = 21 := hz1
  have e : (#[(0, y)].map fun (p : Nat × Operand) => (p.1, a.eval p.2)).toList = [(0, a.eval y)] := by simp
  have hf : Instr.fill (fun i => some (i * i0.size, i0.size)) ((Array.range (1 * i0.size)).map (nl0.v.cells[· % nl0.v.cells.size]!)) (#[(0, y)].map fun (p : Nat × Operand) => (p.1, a.eval p.2)).toList = some x.cs := by
    rw [h21, e, hy]
    exact fill_nl x
  unfold Oper.wp execOp
  simp only [hop, Sem.run_bind, run_buildSlice w 45 31 1 _ x.cs i0 nl0.v Try.underlying45 hi hz0 (by rw [h21]; decide) (by rw [h21]; decide) hf, Result.andThen_ok]
  exact h

theorem encs_le (L : List NL) : (encs L).length ≤ 42 * L.length := by
  induction L with
  | nil => simp [encs]
  | cons x L ih =>
    rw [encs_cons, List.length_append, enc_len, List.length_cons]
    have := NL.val_len x x.k.toNat
    omega

theorem encs_byte {L : List NL} (h : ∀ x ∈ L, x.ty ∧ chk x = 0) : ∀ v ∈ encs L, 0 ≤ v ∧ v ≤ 255 := by
  intro v hv
  simp only [encs, List.mem_flatten, List.mem_map] at hv
  obtain ⟨l, ⟨x, hx, rfl⟩, hv⟩ := hv
  exact enc_byte ((h x hx).1.ok (h x hx).2) (h x hx).2 v hv
theorem own_capm {W : World} {base k n c : Nat} {A : Option Addr} {xs : List Value} {e : TypeId} {size : Nat} (h : W.ownsRow base e size (.slice A n c) k xs) : c ≤ 9223372036854775807 := by
  rcases h.2 with ⟨h1, _⟩ | ⟨g, cap, cur, h1, _, _, h4, h5, h6, h7⟩
  · injection h1 with _ _ h3
    omega
  · injection h1 with _ _ h3
    simp only [maxLen] at *
    omega

end Go.Proofs.Ythhajknmokomjaa
