/- WireWrites: the document's own writer: bytes, marks. -/
import Derived.Test.YtjachhgcoioohaaWwB
import Derived.Lib.AppendZeros
import Derived.Deep.DeepCutAuto
import Derived.Deep.CutBlock
import Derived.Laws.OwnMore
import Derived.Maps.AppendAt
namespace Go.Proofs.Ytjachhgcoioohaa
open Go.RowKit
set_option linter.unusedVariables false
set_option maxRecDepth 100000

theorem info_int : (Try.prog.info? 3).map (fun i => (i.zero, i.size, i.bytes)) = some (some (.int .i64 0), 1, 8) := by kernel_rfl

/-- append of a slice that reads as these bytes, as one equation. -/
theorem run_add (w : World) (v : Value) (n : Nat) (olds : List Value) (hown : w.ownsRow 0 5 1 v n olds) (A0 : Option Addr) (c0 : Nat) (xs : List Int) (h : Arr w (.slice A0 xs.length c0) xs) (hn : n + xs.length ≤ 2000000) (ty : TypeId) :
    ∃ A c w1, (Builtin.append_ #[23, 23] ty #[v, .slice A0 xs.length c0]).run Try.prog w = .ok (.slice A (n + xs.length) c) w1 ∧ w1.ownsRow 0 5 1 (.slice A (n + xs.length) c) (n + xs.length) (olds ++ u8s xs) ∧ w.grownBy w1 v.ownBlock ∧
      (v.ownBlock = (Value.slice A (n + xs.length) c).ownBlock ∨ ∃ g, (Value.slice A (n + xs.length) c).ownBlock = some g ∧ w.heap.size ≤ g) := by
  obtain ⟨i0, hi, hz0, hz1, hz2⟩ := info_parts info_u8
  rcases h with ⟨he, rfl⟩ | ⟨ad, c, he, hc⟩
  · injection he with e1 e2 e3
    subst e1 e3
    have hr := run_append_owned_none (P := Try.prog) (w := w) 0 23 ty 5 i0 1 Try.underlying23 hi v n olds hown
    obtain ⟨A, c, rfl, _⟩ := ow_form hown
    exact ⟨A, c, w, hr, by simpa using hown, ⟨rfl, rfl, rfl, Nat.le_refl _, fun _ _ _ => rfl⟩, .inl rfl⟩
  · injection he with e1 e2 e3
    subst e1 e3
    obtain ⟨v', w1, hr, h2, h3, _, h5⟩ := Go.run_append_own_at (P := Try.prog) w 0 23 ty 5 i0 (.int .u8 0) 1 1 Try.underlying23 hi hz0 hz1 hz2 rfl (by decide) v n olds hown ad xs.length c0 (u8s xs) (by simp) hc (u8s_one xs) (by unfold maxLen; omega) (by omega) (Nat.zero_le _)
    obtain ⟨A, c, rfl, _⟩ := ow_form h2
    exact ⟨A, c, w1, hr, h2, h3, h5.imp (fun h => h.symm) (fun h => ⟨_, h, Nat.le_refl _⟩)⟩

end Go.Proofs.Ytjachhgcoioohaa
