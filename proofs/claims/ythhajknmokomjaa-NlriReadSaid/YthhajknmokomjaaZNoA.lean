/- Routes: the comparisons of numbers; written by gen_noa.py. -/
import Derived.Test.YthhajknmokomjaaRows
import Derived.ProofKit
import Derived.OpenShut
import Derived.Lib.Hide
namespace Go.Proofs.Ythhajknmokomjaa
open Go.RowKit

/-- Which of two numbers is less. -/
def cm (a b : Int) : Int := if a < b then -1 else if b < a then 1 else 0
theorem cm_lt {a b : Int} (h : a < b) : cm a b = -1 := by simp [cm, h]
theorem cm_gt {a b : Int} (h : b < a) : cm a b = 1 := by simp [cm, h]; omega
theorem cm_eq (a : Int) : cm a a = 0 := by simp [cm]
theorem cm_zero {a b : Int} : cm a b = 0 ↔ a = b := by
  unfold cm; split <;> (try split) <;> omega

theorem nan_int (a : Int) (w : World) : Calls Try.prog 53 #[.int .i64 a] w fun e w' => e = .returned (.bool false) ∧ w = w' := by
  go_enter Try.func53, Try.ntmps53
  go_wp2
  go_ret
  exact ⟨by simp, rfl⟩
theorem cmp_int (a b : Int) (w : World) : Calls Try.prog 32 #[.int .i64 a, .int .i64 b] w fun e w' => e = .returned (.int .i64 (cm a b)) ∧ w = w' := by
  by_cases h : a < b
  · go_enter Try.func32, Try.ntmps32
    go_wp2_with (go_at_call 53; refine (nan_int _ _).mono ?_; rintro e w' ⟨rfl, rfl⟩)
    go_ret
    exact ⟨by rw [cm_lt h]; rfl, rfl⟩
  · by_cases h2 : b < a
    · go_enter Try.func32, Try.ntmps32
      go_wp2_with (go_at_call 53; refine (nan_int _ _).mono ?_; rintro e w' ⟨rfl, rfl⟩)
      go_ret
      exact ⟨by rw [cm_gt h2]; rfl, rfl⟩
    · obtain rfl : a = b := by omega
      go_enter Try.func32, Try.ntmps32
      go_wp2_with (go_at_call 53; refine (nan_int _ _).mono ?_; rintro e w' ⟨rfl, rfl⟩)
      go_ret
      exact ⟨by rw [cm_eq]; rfl, rfl⟩

theorem nan_uint64 (a : Int) (w : World) : Calls Try.prog 54 #[.int .u64 a] w fun e w' => e = .returned (.bool false) ∧ w = w' := by
  go_enter Try.func54, Try.ntmps54
  go_wp2
  go_ret
  exact ⟨by simp, rfl⟩
theorem cmp_uint64 (a b : Int) (w : World) : Calls Try.prog 33 #[.int .u64 a, .int .u64 b] w fun e w' => e = .returned (.int .i64 (cm a b)) ∧ w = w' := by
  by_cases h : a < b
  · go_enter Try.func33, Try.ntmps33
    go_wp2_with (go_at_call 54; refine (nan_uint64 _ _).mono ?_; rintro e w' ⟨rfl, rfl⟩)
    go_ret
    exact ⟨by rw [cm_lt h]; rfl, rfl⟩
  · by_cases h2 : b < a
    · go_enter Try.func33, Try.ntmps33
      go_wp2_with (go_at_call 54; refine (nan_uint64 _ _).mono ?_; rintro e w' ⟨rfl, rfl⟩)
      go_ret
      exact ⟨by rw [cm_gt h2]; rfl, rfl⟩
    · obtain rfl : a = b := by omega
      go_enter Try.func33, Try.ntmps33
      go_wp2_with (go_at_call 54; refine (nan_uint64 _ _).mono ?_; rintro e w' ⟨rfl, rfl⟩)
      go_ret
      exact ⟨by rw [cm_eq]; rfl, rfl⟩

theorem nan_uint32 (a : Int) (w : World) : Calls Try.prog 57 #[.int .u32 a] w fun e w' => e = .returned (.bool false) ∧ w = w' := by
  go_enter Try.func57, Try.ntmps57
  go_wp2
  go_ret
  exact ⟨by simp, rfl⟩
theorem cmp_uint32 (a b : Int) (w : World) : Calls Try.prog 35 #[.int .u32 a, .int .u32 b] w fun e w' => e = .returned (.int .i64 (cm a b)) ∧ w = w' := by
  by_cases h : a < b
  · go_enter Try.func35, Try.ntmps35
    go_wp2_with (go_at_call 57; refine (nan_uint32 _ _).mono ?_; rintro e w' ⟨rfl, rfl⟩)
    go_ret
    exact ⟨by rw [cm_lt h]; rfl, rfl⟩
  · by_cases h2 : b < a
    · go_enter Try.func35, Try.ntmps35
      go_wp2_with (go_at_call 57; refine (nan_uint32 _ _).mono ?_; rintro e w' ⟨rfl, rfl⟩)
      go_ret
      exact ⟨by rw [cm_gt h2]; rfl, rfl⟩
    · obtain rfl : a = b := by omega
      go_enter Try.func35, Try.ntmps35
      go_wp2_with (go_at_call 57; refine (nan_uint32 _ _).mono ?_; rintro e w' ⟨rfl, rfl⟩)
      go_ret
      exact ⟨by rw [cm_eq]; rfl, rfl⟩

theorem nan_mac (a : Int) (w : World) : Calls Try.prog 58 #[.int .u64 a] w fun e w' => e = .returned (.bool false) ∧ w = w' := by
  go_enter Try.func58, Try.ntmps58
  go_wp2
  go_ret
  exact ⟨by simp, rfl⟩
theorem cmp_mac (a b : Int) (w : World) : Calls Try.prog 36 #[.int .u64 a, .int .u64 b] w fun e w' => e = .returned (.int .i64 (cm a b)) ∧ w = w' := by
  by_cases h : a < b
  · go_enter Try.func36, Try.ntmps36
    go_wp2_with (go_at_call 58; refine (nan_mac _ _).mono ?_; rintro e w' ⟨rfl, rfl⟩)
    go_ret
    exact ⟨by rw [cm_lt h]; rfl, rfl⟩
  · by_cases h2 : b < a
    · go_enter Try.func36, Try.ntmps36
      go_wp2_with (go_at_call 58; refine (nan_mac _ _).mono ?_; rintro e w' ⟨rfl, rfl⟩)
      go_ret
      exact ⟨by rw [cm_gt h2]; rfl, rfl⟩
    · obtain rfl : a = b := by omega
      go_enter Try.func36, Try.ntmps36
      go_wp2_with (go_at_call 58; refine (nan_mac _ _).mono ?_; rintro e w' ⟨rfl, rfl⟩)
      go_ret
      exact ⟨by rw [cm_eq]; rfl, rfl⟩

theorem nan_ip (a : Int) (w : World) : Calls Try.prog 59 #[.int .u32 a] w fun e w' => e = .returned (.bool false) ∧ w = w' := by
  go_enter Try.func59, Try.ntmps59
  go_wp2
  go_ret
  exact ⟨by simp, rfl⟩
theorem cmp_ip (a b : Int) (w : World) : Calls Try.prog 38 #[.int .u32 a, .int .u32 b] w fun e w' => e = .returned (.int .i64 (cm a b)) ∧ w = w' := by
  by_cases h : a < b
  · go_enter Try.func38, Try.ntmps38
    go_wp2_with (go_at_call 59; refine (nan_ip _ _).mono ?_; rintro e w' ⟨rfl, rfl⟩)
    go_ret
    exact ⟨by rw [cm_lt h]; rfl, rfl⟩
  · by_cases h2 : b < a
    · go_enter Try.func38, Try.ntmps38
      go_wp2_with (go_at_call 59; refine (nan_ip _ _).mono ?_; rintro e w' ⟨rfl, rfl⟩)
      go_ret
      exact ⟨by rw [cm_gt h2]; rfl, rfl⟩
    · obtain rfl : a = b := by omega
      go_enter Try.func38, Try.ntmps38
      go_wp2_with (go_at_call 59; refine (nan_ip _ _).mono ?_; rintro e w' ⟨rfl, rfl⟩)
      go_ret
      exact ⟨by rw [cm_eq]; rfl, rfl⟩

theorem nan_byte (a : Int) (w : World) : Calls Try.prog 69 #[.int .u8 a] w fun e w' => e = .returned (.bool false) ∧ w = w' := by
  go_enter Try.func69, Try.ntmps69
  go_wp2
  go_ret
  exact ⟨by simp, rfl⟩
theorem cmp_byte (a b : Int) (w : World) : Calls Try.prog 56 #[.int .u8 a, .int .u8 b] w fun e w' => e = .returned (.int .i64 (cm a b)) ∧ w = w' := by
  by_cases h : a < b
  · go_enter Try.func56, Try.ntmps56
    go_wp2_with (go_at_call 69; refine (nan_byte _ _).mono ?_; rintro e w' ⟨rfl, rfl⟩)
    go_ret
    exact ⟨by rw [cm_lt h]; rfl, rfl⟩
  · by_cases h2 : b < a
    · go_enter Try.func56, Try.ntmps56
      go_wp2_with (go_at_call 69; refine (nan_byte _ _).mono ?_; rintro e w' ⟨rfl, rfl⟩)
      go_ret
      exact ⟨by rw [cm_gt h2]; rfl, rfl⟩
    · obtain rfl : a = b := by omega
      go_enter Try.func56, Try.ntmps56
      go_wp2_with (go_at_call 69; refine (nan_byte _ _).mono ?_; rintro e w' ⟨rfl, rfl⟩)
      go_ret
      exact ⟨by rw [cm_eq]; rfl, rfl⟩

/-- false comes before true. -/
def rk (b : Bool) : Int := if b then 1 else 0
theorem rank_b (b : Bool) (w : World) : Calls Try.prog 37 #[.bool b] w fun e w' => e = .returned (.int .i64 (rk b)) ∧ w = w' := by
  cases b
  · go_enter Try.func37, Try.ntmps37
    go_wp2
    go_ret
    exact ⟨rfl, rfl⟩
  · go_enter Try.func37, Try.ntmps37
    go_wp2
    go_ret
    exact ⟨rfl, rfl⟩

/-- The first number that is not zero. -/
def orl : List Int → Int
  | [] => 0
  | x :: xs => if x = 0 then orl xs else x

end Go.Proofs.Ythhajknmokomjaa
