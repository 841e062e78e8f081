/- Readers: copies of bytes, readers of parts, faults; by the pure state of a reader. -/
import Derived.Test.YtofbgpgngplgpaaRdE
namespace Go.Proofs.Ytofbgpgngplgpaa
open Go.RowKit
set_option maxRecDepth 100000

/-- A slice that reads as these bytes: nil, or an array of its own from base on. -/
def Got (w : World) (base : Nat) (v : Value) (xs : List Int) : Prop :=
  (v = .slice none 0 0 ∧ xs = []) ∨ ∃ h' c', v = .slice (some ⟨h', 0, none⟩) xs.length c' ∧ Row w h' c' xs ∧ base ≤ h'

theorem Got.below {w w' : World} {base : Nat} {v : Value} {xs : List Int} (h : Got w base v xs) (hb : Below w.heap.size w w') : Got w' base v xs := by
  rcases h with h | ⟨h', c', h1, h2, h3⟩
  · exact .inl h
  · exact .inr ⟨h', c', h1, h2.below hb, h3⟩

theorem rU8_nil (w : World) :
    Calls Try.prog 32 #[.pointer none] w fun e w' => e = .returned (.int .u64 0) ∧ Below w.heap.size w w' := by
  go_enter Try.func32, Try.ntmps32
  go_wp2_with (first
    | (go_at_call 42; refine (rtake_nil _ 1).mono ?_; rintro e w' ⟨rfl, h2⟩)
    | (go_at_call 41; refine (rget_nil _).mono ?_; rintro e w' ⟨rfl, rfl⟩))
  go_ret
  exact ⟨rfl, h2⟩

theorem rU48_nil (w : World) :
    Calls Try.prog 47 #[.pointer none] w fun e w' => e = .returned (.int .u64 0) ∧ Below w.heap.size w w' := by
  go_enter Try.func47, Try.ntmps47
  go_wp2_with (first
    | (go_at_call 42; refine (rtake_nil _ 6).mono ?_; rintro e w' ⟨rfl, h2⟩)
    | (go_at_call 41; refine (rget_nil _).mono ?_; rintro e w' ⟨rfl, rfl⟩))
  go_ret
  exact ⟨rfl, h2⟩


theorem rfail (g h cap : Nat) (s : RS) (w : World) (H : RdS w g h cap s) (x : Int) :
    Calls Try.prog 50 #[.pointer (some ⟨g, 0, none⟩), .int .i64 x] w fun e w' => e = .returned (.tuple #[]) ∧ RdS w' g h cap (s.fail x) ∧ Only w g w' := by
  by_cases h0 : x ≠ 0 ∧ s.ef = 0
  · refine (rfail_yes _ _ _ _ _ _ _ _ (rd0 H h0.2) x (by simpa using h0.1)).mono ?_
    rintro e w' ⟨rfl, h2, h3⟩
    refine ⟨rfl, ?_, h3⟩
    unfold RS.fail
    rw [if_pos h0]
    exact h2
  · refine (rfail_no _ _ _ _ _ _ _ _ _ H x (by
      by_cases h1 : x = 0
      · exact .inl (by simpa using h1)
      · exact .inr (by simp; intro h2; exact h0 ⟨h1, h2⟩))).mono ?_
    rintro e w' ⟨rfl, rfl⟩
    refine ⟨rfl, ?_, only_refl w g⟩
    unfold RS.fail
    rw [if_neg h0]
    exact H

end Go.Proofs.Ytofbgpgngplgpaa
