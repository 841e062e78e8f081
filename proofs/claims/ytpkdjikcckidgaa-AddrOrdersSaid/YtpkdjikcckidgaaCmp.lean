/- Contracts of the comparisons of numbers. -/
import Derived.Test.YtpkdjikcckidgaaBase
namespace Go.Proofs.Ytpkdjikcckidgaa
open Go.RowKit

/-- Which of two numbers is less. -/
def cm (a b : Int) : Int := if a < b then -1 else if b < a then 1 else 0

theorem cm_lt {a b : Int} (h : a < b) : cm a b = -1 := by simp [cm, h]
theorem cm_gt {a b : Int} (h : b < a) : cm a b = 1 := by simp [cm, h]; omega
theorem cm_eq (a : Int) : cm a a = 0 := by simp [cm]

theorem nan28 (a : Int) (w : World) : Calls Try.prog 28 #[.int .u32 a] w fun e w' => e = .returned (.bool false) ∧ w = w' := by
  go_enter Try.func28, Try.ntmps28
  go_wp2
  go_ret
  exact ⟨by simp, rfl⟩
theorem nan29 (a : Int) (w : World) : Calls Try.prog 29 #[.int .i64 a] w fun e w' => e = .returned (.bool false) ∧ w = w' := by
  go_enter Try.func29, Try.ntmps29
  go_wp2
  go_ret
  exact ⟨by simp, rfl⟩
theorem nan31 (a : Int) (w : World) : Calls Try.prog 31 #[.int .u8 a] w fun e w' => e = .returned (.bool false) ∧ w = w' := by
  go_enter Try.func31, Try.ntmps31
  go_wp2
  go_ret
  exact ⟨by simp, rfl⟩

theorem cmp23 (a b : Int) (w : World) : Calls Try.prog 23 #[.int .u32 a, .int .u32 b] w fun e w' => e = .returned (.int .i64 (cm a b)) ∧ w = w' := by
  by_cases h : a < b
  · go_enter Try.func23, Try.ntmps23
    go_wp2_with (go_at_call 28; refine (nan28 _ _).mono ?_; rintro e w' ⟨rfl, rfl⟩)
    go_ret
    exact ⟨by rw [cm_lt h]; rfl, rfl⟩
  · by_cases h2 : b < a
    · go_enter Try.func23, Try.ntmps23
      go_wp2_with (go_at_call 28; refine (nan28 _ _).mono ?_; rintro e w' ⟨rfl, rfl⟩)
      go_ret
      exact ⟨by rw [cm_gt h2]; rfl, rfl⟩
    · obtain rfl : a = b := by omega
      go_enter Try.func23, Try.ntmps23
      go_wp2_with (go_at_call 28; refine (nan28 _ _).mono ?_; rintro e w' ⟨rfl, rfl⟩)
      go_ret
      exact ⟨by rw [cm_eq]; rfl, rfl⟩
theorem cmp24 (a b : Int) (w : World) : Calls Try.prog 24 #[.int .i64 a, .int .i64 b] w fun e w' => e = .returned (.int .i64 (cm a b)) ∧ w = w' := by
  by_cases h : a < b
  · go_enter Try.func24, Try.ntmps24
    go_wp2_with (go_at_call 29; refine (nan29 _ _).mono ?_; rintro e w' ⟨rfl, rfl⟩)
    go_ret
    exact ⟨by rw [cm_lt h]; rfl, rfl⟩
  · by_cases h2 : b < a
    · go_enter Try.func24, Try.ntmps24
      go_wp2_with (go_at_call 29; refine (nan29 _ _).mono ?_; rintro e w' ⟨rfl, rfl⟩)
      go_ret
      exact ⟨by rw [cm_gt h2]; rfl, rfl⟩
    · obtain rfl : a = b := by omega
      go_enter Try.func24, Try.ntmps24
      go_wp2_with (go_at_call 29; refine (nan29 _ _).mono ?_; rintro e w' ⟨rfl, rfl⟩)
      go_ret
      exact ⟨by rw [cm_eq]; rfl, rfl⟩
theorem cmp26 (a b : Int) (w : World) : Calls Try.prog 26 #[.int .u8 a, .int .u8 b] w fun e w' => e = .returned (.int .i64 (cm a b)) ∧ w = w' := by
  by_cases h : a < b
  · go_enter Try.func26, Try.ntmps26
    go_wp2_with (go_at_call 31; refine (nan31 _ _).mono ?_; rintro e w' ⟨rfl, rfl⟩)
    go_ret
    exact ⟨by rw [cm_lt h]; rfl, rfl⟩
  · by_cases h2 : b < a
    · go_enter Try.func26, Try.ntmps26
      go_wp2_with (go_at_call 31; refine (nan31 _ _).mono ?_; rintro e w' ⟨rfl, rfl⟩)
      go_ret
      exact ⟨by rw [cm_gt h2]; rfl, rfl⟩
    · obtain rfl : a = b := by omega
      go_enter Try.func26, Try.ntmps26
      go_wp2_with (go_at_call 31; refine (nan31 _ _).mono ?_; rintro e w' ⟨rfl, rfl⟩)
      go_ret
      exact ⟨by rw [cm_eq]; rfl, rfl⟩

end Go.Proofs.Ytpkdjikcckidgaa
