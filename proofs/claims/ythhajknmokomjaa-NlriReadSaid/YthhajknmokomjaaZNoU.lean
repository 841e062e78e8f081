/- Routes: the document's comparisons of numbers and of prefixes. -/
import Derived.Test.YthhajknmokomjaaZNoF
import Derived.Test.YthhajknmokomjaaZNoR
namespace Go.Proofs.Ythhajknmokomjaa
open Go.RowKit
set_option linter.unusedVariables false
set_option linter.unusedSimpArgs false
set_option maxRecDepth 100000

theorem rcm4 (a b : Int) (w : World) : Calls Try.prog 40 #[.int .u64 a, .int .u64 b] w fun e w' => e = .returned (.int .i64 (cm a b)) ∧ w = w' := by
  by_cases h : a < b
  · go_enter Try.func40, Try.ntmps40
    go_wp2
    go_ret
    exact ⟨by rw [cm_lt h]; rfl, rfl⟩
  · by_cases h2 : b < a
    · go_enter Try.func40, Try.ntmps40
      go_wp2
      go_ret
      exact ⟨by rw [cm_gt h2]; rfl, rfl⟩
    · obtain rfl : a = b := by omega
      go_enter Try.func40, Try.ntmps40
      go_wp2
      go_ret
      exact ⟨by rw [cm_eq]; rfl, rfl⟩

theorem rcm1 (a b : Int) (w : World) : Calls Try.prog 60 #[.int .i64 a, .int .i64 b] w fun e w' => e = .returned (.int .i64 (cm a b)) ∧ w = w' := by
  by_cases h : a < b
  · go_enter Try.func60, Try.ntmps60
    go_wp2
    go_ret
    exact ⟨by rw [cm_lt h]; rfl, rfl⟩
  · by_cases h2 : b < a
    · go_enter Try.func60, Try.ntmps60
      go_wp2
      go_ret
      exact ⟨by rw [cm_gt h2]; rfl, rfl⟩
    · obtain rfl : a = b := by omega
      go_enter Try.func60, Try.ntmps60
      go_wp2
      go_ret
      exact ⟨by rw [cm_eq]; rfl, rfl⟩

theorem rcpx (p l q m : Int) (hp : 0 ≤ p ∧ p < 4294967296) (hq : 0 ≤ q ∧ q < 4294967296) (w : World) : Calls Try.prog 43 #[pfx p l, pfx q m] w fun e w' => e = .returned (.int .i64 (cpx p l q m)) ∧ Below w.heap.size w w' := by
  have HB : Hid (Below w.heap.size w ((w.alloc (pfxb p l)).alloc (pfxb q m))) := Lib.hid (((Below.refl _ w).alloc (Nat.le_refl _) _).alloc (by simp) _)
  by_cases h : cm p q = 0
  · have hb : (cm p q == 0) = true := by simpa using h
    have HE : Hid (cpx p l q m = cm l m) := Lib.hid (by unfold cpx; rw [orl, if_pos h, orl]; split <;> simp_all [orl])
    clear h
    go_enter Try.func43, Try.ntmps43
    go_wp2_with (go_at_call 60; refine (rcm1 _ _ _).mono ?_; rintro e w' ⟨rfl, rfl⟩)
    go_ret
    exact ⟨by rw [HE.out]; rfl, HB.out⟩
  · have hb : (cm p q == 0) = false := by simpa using h
    have HE : Hid (cpx p l q m = cm p q) := Lib.hid (by unfold cpx; rw [orl, if_neg h])
    clear h
    go_enter Try.func43, Try.ntmps43
    go_wp2_with (go_at_call 60; refine (rcm1 p q _).mono ?_; rintro e w' ⟨rfl, rfl⟩)
    go_ret
    exact ⟨by rw [HE.out]; rfl, HB.out⟩
theorem rnum (b : Bool) (w : World) : Calls Try.prog 42 #[.bool b] w fun e w' => e = .returned (.int .u64 (rk b)) ∧ w = w' := by
  cases b
  · go_enter Try.func42, Try.ntmps42
    go_wp2
    go_ret
    exact ⟨rfl, rfl⟩
  · go_enter Try.func42, Try.ntmps42
    go_wp2
    go_ret
    exact ⟨rfl, rfl⟩

end Go.Proofs.Ythhajknmokomjaa
