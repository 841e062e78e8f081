/- WireWrites: the document's own writer: its memory, and how it grows. -/
import Derived.Test.YtjachhgcoioohaaBkA
import Derived.Test.YtjachhgcoioohaaAct
import Derived.Deep.AppendLies
import Derived.Deep.RegionLawGrows
import Derived.Deep.RegionHeld3
namespace Go.Proofs.Ytjachhgcoioohaa
open Go.RowKit
set_option linter.unusedVariables false
set_option maxRecDepth 100000

section
variable {w w' : World} {l : List Nat} {base size n : Nat} {e : TypeId} {v : Value} {xs : List Value}
theorem ow_block (h : w.ownsRow base e size v n xs) : ∀ g, v.ownBlock = some g → base ≤ g ∧ g < w.heap.size ∧ ∃ cur, Has w g e cur := by
  intro g hg
  rcases h.2 with ⟨rfl, _⟩ | ⟨g', cap, cur, rfl, hb, hh, _⟩
  · cases hg
  · injection hg with hg
    subst hg
    have hh' : Has w g' e cur := hh
    exact ⟨hb, hh'.lt, cur, hh'⟩
theorem ow_turn (h : w.ownsRow base e size v n xs) (ht : Turn l w w') (hn : ∀ g, v.ownBlock = some g → g ∉ l) : w'.ownsRow base e size v n xs := by
  refine ⟨h.1, ?_⟩
  rcases h.2 with h0 | ⟨g, cap, cur, hv, hb, hg, r⟩
  · exact .inl h0
  · subst hv
    have hh : Has w g e cur := hg
    exact .inr ⟨g, cap, cur, rfl, hb, (ht.block g hh.lt (hn g rfl)).trans hg, r⟩
theorem ow_below (h : w.ownsRow base e size v n xs) (hb : Below w.heap.size w w') : w'.ownsRow base e size v n xs := ow_turn h (turn_below hb []) (by simp)
theorem ow_ne {base' size' n' : Nat} {e' : TypeId} {v' : Value} {xs' : List Value} (h : w.ownsRow base e size v n xs) (h' : w.ownsRow base' e' size' v' n' xs') (hne : e ≠ e') : ∀ k, v.ownBlock = some k → v'.ownBlock ≠ some k := by
  intro k hk hm
  obtain ⟨_, _, cur, hh⟩ := ow_block h k hk
  obtain ⟨_, _, cur', hh'⟩ := ow_block h' k hm
  exact hh.unlike hh' hne rfl
theorem ow_has {g : Nat} {t : TypeId} {cs : Array Value} (h : w.ownsRow base e size v n xs) (h' : Has w g t cs) (hne : e ≠ t) : v.ownBlock ≠ some g := by
  intro hk
  obtain ⟨_, _, cur, hh⟩ := ow_block h g hk
  exact hh.unlike h' hne rfl
theorem ow_form (h : w.ownsRow base e 1 v n xs) : ∃ A c, v = .slice A n c ∧ n ≤ c ∧ c ≤ maxLen ∧ (A = none → n = 0) ∧ (∀ a, A = some a → ∃ g, a = ⟨g, 0, none⟩) := by
  rcases h.2 with ⟨h0, h1⟩ | ⟨g, cap, cur, hv, hb, hh, hn, hc, _⟩
  · subst h1
    exact ⟨none, 0, h0, Nat.le_refl _, by unfold maxLen; omega, fun _ => rfl, by simp⟩
  · exact ⟨_, cap, hv, hn, hc, by simp, fun a ha => ⟨g, by injection ha with ha; exact ha.symm⟩⟩
end

/-- The blocks of a writer. -/
def rwl (o : Nat) (v m : Value) : List Nat := o :: (v.ownBlock.toList ++ m.ownBlock.toList)

section
variable {w w' : World} {o : Nat} {v m : Value} {s : WS} {l l2 : List Nat}
end

theorem rwl_more {w w1 : World} {o : Nat} {v m v' : Value} (h : v.ownBlock = v'.ownBlock ∨ ∃ g, v'.ownBlock = some g ∧ w.heap.size ≤ g) : ∀ k ∈ rwl o v' m, k ∈ rwl o v m ∨ w.heap.size ≤ k := by
  intro k hk
  simp only [rwl, List.mem_cons, List.mem_append, Option.mem_toList] at hk ⊢
  rcases hk with hk | hk | hk
  · exact .inl (.inl hk)
  · rcases h with h | ⟨g, h, hg⟩
    · exact .inl (.inr (.inl (h.trans hk)))
    · rw [h] at hk
      injection hk with hk
      exact .inr (hk ▸ hg)
  · exact .inl (.inr (.inr hk))

theorem be_take_succ (v : Int) (n k : Nat) (hk : k < n) : (be v n).take (k + 1) = (be v n).take k ++ [v / 256 ^ (n - 1 - k) % 256] := by
  rw [List.take_succ_eq_append_getElem (by rw [be_length]; exact hk)]
  congr 1
  congr 1
  induction n generalizing k with
  | zero => omega
  | succ n ih =>
    cases k with
    | zero => simp [be]
    | succ k =>
      simp only [be, List.getElem_cons_succ]
      rw [ih k (by omega)]
      congr 3
      omega

end Go.Proofs.Ytjachhgcoioohaa
