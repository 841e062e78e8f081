/- Rows of routes: their cells, flat; slices of them; what a call owns. -/
import Derived.Test.YtjachhgcoioohaaNrB
import Derived.Deep.MidRow
namespace Go.Proofs.Ytjachhgcoioohaa
open Go.RowKit Go.Maps
set_option linter.unusedVariables false
set_option linter.unusedSimpArgs false
set_option maxRecDepth 100000

def NL.l (x : NL) : List Value := x.cs.toList
theorem NL.l_len (x : NL) : x.l.length = 21 := rfl
theorem NL.l_one (x : NL) : ∀ u ∈ x.l, u.oneCell' = true := by
  intro u hu
  have h := x.one
  rw [Array.all_eq_true_iff_forall_mem] at h
  exact h u (by simpa [NL.l] using hu)
theorem NL.l_arr (x : NL) : x.l.toArray = x.cs := by simp [NL.l]

def flatN (L : List NL) : List Value := L.flatMap NL.l
theorem flatN_nil : flatN [] = [] := rfl
theorem flatN_cons (x : NL) (L : List NL) : flatN (x :: L) = x.l ++ flatN L := by simp [flatN]
theorem flatN_len (L : List NL) : (flatN L).length = L.length * 21 := by
  induction L with
  | nil => rfl
  | cons x L ih => rw [flatN_cons, List.length_append, ih, NL.l_len, List.length_cons]; omega
theorem flatN_app (L M : List NL) : flatN (L ++ M) = flatN L ++ flatN M := by simp [flatN]
theorem flatN_one (L : List NL) : ∀ u ∈ flatN L, u.oneCell' = true := by
  intro u hu
  obtain ⟨x, _, hx⟩ := List.mem_flatMap.1 hu
  exact x.l_one u hx
theorem flatN_at (L : List NL) (i : Nat) (hi : i < L.length) (j : Nat) (hj : j < 21) : (flatN L)[i * 21 + j]? = L[i].l[j]? := by
  induction L generalizing i with
  | nil => simp at hi
  | cons x L ih =>
    rw [flatN_cons]
    cases i with
    | zero => rw [List.getElem?_append_left (by rw [NL.l_len]; omega)]; simp
    | succ i =>
      rw [List.getElem?_append_right (by rw [NL.l_len]; omega), NL.l_len]
      have := ih i (by simpa using hi)
      rw [show (i + 1) * 21 + j - 21 = i * 21 + j by omega, this]
      simp

/-- A slice of routes. -/
def Nls (w : World) (v : Value) (L : List NL) : Prop := (v = .slice none 0 0 ∧ L = []) ∨ ∃ b o c, v = .slice (some ⟨b, o, none⟩) L.length c ∧ w.rangeAt b o (flatN L)

theorem range_below {w w' : World} {b o : Nat} {cs : List Value} (h : w.rangeAt b o cs) (hb : Below w.heap.size w w') : w'.rangeAt b o cs := fun j v hv =>
  (hb.cell (p := ⟨b, o + j, none⟩) (cell_block (h j v hv))).trans (h j v hv)
theorem Nls.below {w w' : World} {v : Value} {L : List NL} (h : Nls w v L) (hb : Below w.heap.size w w') : Nls w' v L := by
  rcases h with h | ⟨b, o, c, h1, h2⟩
  · exact .inl h
  · exact .inr ⟨b, o, c, h1, range_below h2 hb⟩
theorem Nls.form {w : World} {v : Value} {L : List NL} (h : Nls w v L) : ∃ A c, v = .slice A L.length c := by
  rcases h with ⟨rfl, rfl⟩ | ⟨b, o, c, h, _⟩
  · exact ⟨none, 0, rfl⟩
  · exact ⟨_, c, h⟩
theorem range_at {w : World} {b o : Nat} {L : List NL} (h : w.rangeAt b o (flatN L)) (i : Nat) (hi : i < L.length) : w.rangeAt b (o + i * 21) L[i].l := fun j v hv => by
  have hj : j < 21 := by have := (List.getElem?_eq_some_iff.1 hv).1; rwa [NL.l_len] at this
  have := h (i * 21 + j) v (by rw [flatN_at L i hi j hj]; exact hv)
  rw [show o + i * 21 + j = o + (i * 21 + j) by omega]
  exact this

theorem info_nl : (Try.prog.info? 36).map (fun i => (i.zero, i.size)) = some (some nl0.v, 21) := by kernel_rfl
theorem nl_fit_l (x : NL) : (Try.prog.info? 36).map (·.size) = some x.l.length := nl_fit

/-- What the call owns reads as these routes. -/
theorem own_nls {w : World} {base : Nat} {v : Value} {L : List NL} (h : w.ownsRow base 36 21 v L.length (flatN L)) : Nls w v L := by
  rcases h.2 with ⟨h1, h0⟩ | ⟨g, cap, cur, h1, h2, h3, h4, h5, h6, h7⟩
  · exact .inl ⟨h1, List.length_eq_zero_iff.1 h0⟩
  · subst h1
    refine .inr ⟨g, 0, cap, rfl, fun j u hu => ?_⟩
    have hh : Has w g 36 cur := h3
    rw [Nat.zero_add, hh.cell j, ← Array.getElem?_toList]
    have hj : j < L.length * 21 := by
      have := (List.getElem?_eq_some_iff.1 hu).1
      rw [flatN_len] at this
      exact this
    rw [← h7, List.getElem?_take_of_lt hj] at hu
    exact hu

theorem own_keep {w w' : World} {base size n : Nat} {e : TypeId} {v : Value} {xs : List Value} (h : w.ownsRow base e size v n xs) (hb : Below w.heap.size w w') : w'.ownsRow base e size v n xs := by
  refine ⟨h.1, ?_⟩
  rcases h.2 with h0 | ⟨g, cap, cur, hv, hb', hg, r⟩
  · exact .inl h0
  · subst hv
    have hh : Has w g e cur := hg
    exact .inr ⟨g, cap, cur, rfl, hb', hh.below hb, r⟩

end Go.Proofs.Ytjachhgcoioohaa
