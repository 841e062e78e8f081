/- WireWrites: the document's own writer: its memory, and how it grows. -/
import Derived.Test.YthhajknmokomjaaZLw
import Derived.Deep.AppendLies
import Derived.Deep.RegionLawGrows
import Derived.Deep.RegionHeld3
import Derived.Lib.AppendZeros
import Derived.Deep.DeepCutAuto
import Derived.Deep.CutBlock
import Derived.Laws.OwnMore
import Derived.Maps.AppendAt
namespace Go.Proofs.Ythhajknmokomjaa
open Go.RowKit
set_option linter.unusedVariables false
set_option maxRecDepth 100000

section
variable {w w' : World} {l : List Nat} {base size n : Nat} {e : TypeId} {v : Value} {xs : List Value}
theorem ow_block (h : w.ownsRow base e size v n xs) : ∀ g, v.ownBlock = some g → base ≤ g ∧ g < w.heap.size ∧ ∃ cur, Has w g e cur := by
  intro g hg
  rcases h.2 with ⟨rfl, _⟩ | ⟨g', cap, cur, rfl, hb, hh, _⟩
  · cases hg
  · injection hg with hg
    subst hg
    have hh' : Has w g' e cur := hh
    exact ⟨hb, hh'.lt, cur, hh'⟩
theorem ow_turn (h : w.ownsRow base e size v n xs) (ht : Turn l w w') (hn : ∀ g, v.ownBlock = some g → g ∉ l) : w'.ownsRow base e size v n xs := by
  refine ⟨h.1, ?_⟩
  rcases h.2 with h0 | ⟨g, cap, cur, hv, hb, hg, r⟩
  · exact .inl h0
  · subst hv
    have hh : Has w g e cur := hg
    exact .inr ⟨g, cap, cur, rfl, hb, (ht.block g hh.lt (hn g rfl)).trans hg, r⟩
theorem ow_below (h : w.ownsRow base e size v n xs) (hb : Below w.heap.size w w') : w'.ownsRow base e size v n xs := ow_turn h (turn_below hb []) (by simp)
theorem ow_ne {base' size' n' : Nat} {e' : TypeId} {v' : Value} {xs' : List Value} (h : w.ownsRow base e size v n xs) (h' : w.ownsRow base' e' size' v' n' xs') (hne : e ≠ e') : ∀ k, v.ownBlock = some k → v'.ownBlock ≠ some k := by
  intro k hk hm
  obtain ⟨_, _, cur, hh⟩ := ow_block h k hk
  obtain ⟨_, _, cur', hh'⟩ := ow_block h' k hm
  exact hh.unlike hh' hne rfl
theorem ow_has {g : Nat} {t : TypeId} {cs : Array Value} (h : w.ownsRow base e size v n xs) (h' : Has w g t cs) (hne : e ≠ t) : v.ownBlock ≠ some g := by
  intro hk
  obtain ⟨_, _, cur, hh⟩ := ow_block h g hk
  exact hh.unlike h' hne rfl
theorem ow_form (h : w.ownsRow base e 1 v n xs) : ∃ A c, v = .slice A n c ∧ n ≤ c ∧ c ≤ maxLen ∧ (A = none → n = 0) ∧ (∀ a, A = some a → ∃ g, a = ⟨g, 0, none⟩) := by
  rcases h.2 with ⟨h0, h1⟩ | ⟨g, cap, cur, hv, hb, hh, hn, hc, _⟩
  · subst h1
    exact ⟨none, 0, h0, Nat.le_refl _, by unfold maxLen; omega, fun _ => rfl, by simp⟩
  · exact ⟨_, cap, hv, hn, hc, by simp, fun a ha => ⟨g, by injection ha with ha; exact ha.symm⟩⟩
end

/-- The blocks of a writer. -/
def rwl (o : Nat) (v m : Value) : List Nat := o :: (v.ownBlock.toList ++ m.ownBlock.toList)

section
variable {w w' : World} {o : Nat} {v m : Value} {s : WS} {l l2 : List Nat}
end

theorem rwl_more {w w1 : World} {o : Nat} {v m v' : Value} (h : v.ownBlock = v'.ownBlock ∨ ∃ g, v'.ownBlock = some g ∧ w.heap.size ≤ g) : ∀ k ∈ rwl o v' m, k ∈ rwl o v m ∨ w.heap.size ≤ k := by
  intro k hk
  simp only [rwl, List.mem_cons, List.mem_append, Option.mem_toList] at hk ⊢
  rcases hk with hk | hk | hk
  · exact .inl (.inl hk)
  · rcases h with h | ⟨g, h, hg⟩
    · exact .inl (.inr (.inl (h.trans hk)))
    · rw [h] at hk
      injection hk with hk
      exact .inr (hk ▸ hg)
  · exact .inl (.inr (.inr hk))

theorem be_take_succ (v : Int) (n k : Nat) (hk : k < n) : (be v n).take (k + 1) = (be v n).take k ++ [v / 256 ^ (n - 1 - k) % 256] := by
  rw [List.take_succ_eq_append_getElem (by rw [be_length]; exact hk)]
  congr 1
  congr 1
  induction n generalizing k with
  | zero => omega
  | succ n ih =>
    cases k with
    | zero => simp [be]
    | succ k =>
      simp only [be, List.getElem_cons_succ]
      rw [ih k (by omega)]
      congr 3
      omega

end Go.Proofs.Ythhajknmokomjaa

namespace Go.Proofs.Ythhajknmokomjaa
open Go.RowKit
set_option linter.unusedVariables false
set_option maxRecDepth 100000

theorem news_block {w : World} {t : TypeId} {x : Value} : ∀ j u, [x][j]? = some u → (w.alloc (.cells #[x] t)).cell? ((⟨w.heap.size, 0, none⟩ : Addr).add j) = some u := by
  intro j u hu
  obtain ⟨hj, rfl⟩ := List.getElem?_eq_some_iff.1 hu
  simp only [List.length_singleton] at hj
  obtain rfl : j = 0 := by omega
  simp [Addr.add]

theorem Next.drewN {w w' : World} {l l' : List Nat} (h : Next w l w' l') (n : Nat) : Next w l (w'.drewN n) l' := ⟨⟨h.1.os, h.1.tape, h.1.output, h.1.size, h.1.block⟩, h.2⟩
/-- The numbers that fit: what is left behind the tests. -/
theorem WS.put_fit {s : WS} {n : Int} {k : Nat} (h1 : ¬ (256 : Int) ^ k ≤ n) (h2 : ¬ s.lim - s.out.length < k) : s.put n k = (0, { s with out := s.out ++ be n k }) := by
  unfold WS.put; rw [if_neg h1, if_neg h2]

end Go.Proofs.Ythhajknmokomjaa

namespace Go.Proofs.Ythhajknmokomjaa
open Go.RowKit
set_option linter.unusedVariables false
set_option maxRecDepth 100000

theorem info_int : (Try.prog.info? 3).map (fun i => (i.zero, i.size, i.bytes)) = some (some (.int .i64 0), 1, 8) := by kernel_rfl

/-- append of a slice that reads as these bytes, as one equation. -/
theorem run_add (w : World) (v : Value) (n : Nat) (olds : List Value) (hown : w.ownsRow 0 5 1 v n olds) (A0 : Option Addr) (c0 : Nat) (xs : List Int) (h : Arr w (.slice A0 xs.length c0) xs) (hn : n + xs.length ≤ 2000000) (ty : TypeId) :
    ∃ A c w1, (Builtin.append_ #[34, 34] ty #[v, .slice A0 xs.length c0]).run Try.prog w = .ok (.slice A (n + xs.length) c) w1 ∧ w1.ownsRow 0 5 1 (.slice A (n + xs.length) c) (n + xs.length) (olds ++ u8s xs) ∧ w.grownBy w1 v.ownBlock ∧
      (v.ownBlock = (Value.slice A (n + xs.length) c).ownBlock ∨ ∃ g, (Value.slice A (n + xs.length) c).ownBlock = some g ∧ w.heap.size ≤ g) := by
  obtain ⟨i0, hi, hz0, hz1, hz2⟩ := info_parts info_u8
  rcases h with ⟨he, rfl⟩ | ⟨ad, c, he, hc⟩
  · injection he with e1 e2 e3
    subst e1 e3
    have hr := run_append_owned_none (P := Try.prog) (w := w) 0 34 ty 5 i0 1 Try.underlying34 hi v n olds hown
    obtain ⟨A, c, rfl, _⟩ := ow_form hown
    exact ⟨A, c, w, hr, by simpa using hown, ⟨rfl, rfl, rfl, Nat.le_refl _, fun _ _ _ => rfl⟩, .inl rfl⟩
  · injection he with e1 e2 e3
    subst e1 e3
    obtain ⟨v', w1, hr, h2, h3, _, h5⟩ := Go.run_append_own_at (P := Try.prog) w 0 34 ty 5 i0 (.int .u8 0) 1 1 Try.underlying34 hi hz0 hz1 hz2 rfl (by decide) v n olds hown ad xs.length c0 (u8s xs) (by simp) hc (u8s_one xs) (by unfold maxLen; omega) (by omega) (Nat.zero_le _)
    obtain ⟨A, c, rfl, _⟩ := ow_form h2
    exact ⟨A, c, w1, hr, h2, h3, h5.imp (fun h => h.symm) (fun h => ⟨_, h, Nat.le_refl _⟩)⟩

end Go.Proofs.Ythhajknmokomjaa
