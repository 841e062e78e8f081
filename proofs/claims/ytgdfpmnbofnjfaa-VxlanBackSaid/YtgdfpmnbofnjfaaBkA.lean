/- WireBack, WireWrites: the law's own put and sizes; a number and its bytes. -/
import Derived.Test.YtgdfpmnbofnjfaaLwB
namespace Go.Proofs.Ytgdfpmnbofnjfaa
open Go.RowKit
set_option linter.unusedVariables false

/-- The block of the sizes. -/
abbrev sizeb : Obj := .cells #[.int .i64 1, .int .i64 2, .int .i64 3, .int .i64 4, .int .i64 6, .int .i64 8] 3

theorem num_be (v : Int) (k : Nat) : num (be v k) = v % 256 ^ k := by
  have key : ∀ (k : Nat) (a : Int), (be v k).foldl (fun n b => n * 256 + b) a = a * 256 ^ k + v % 256 ^ k := by
    intro k
    induction k with
    | zero =>
      intro a
      rw [Int.pow_zero, Int.mul_one, Int.emod_one, Int.add_zero]
      rfl
    | succ k ih =>
      intro a
      rw [be, List.foldl_cons, ih]
      have hp : (0 : Int) < 256 ^ k := Int.pow_pos (by decide)
      have e : (256 : Int) ^ (k + 1) = 256 ^ k * 256 := Int.pow_succ 256 k
      rw [e]
      generalize (256 : Int) ^ k = q at hp
      have h1 := Int.emod_add_mul_ediv v q
      have h2 := Int.emod_add_mul_ediv (v / q) 256
      have h3 := Int.emod_add_mul_ediv v (q * 256)
      have h4 : v / (q * 256) = v / q / 256 := by rw [Int.ediv_ediv_of_nonneg (by omega)]
      rw [h4] at h3
      have h5 : v % (q * 256) = v % q + q * (v / q % 256) := by
        have : q * (v / q) = q * (v / q % 256) + q * (256 * (v / q / 256)) := by rw [← Int.mul_add, h2]
        have h6 : q * (256 * (v / q / 256)) = q * 256 * (v / q / 256) := by rw [Int.mul_assoc]
        omega
      rw [h5, Int.add_mul, Int.mul_assoc, Int.mul_comm 256 q, Int.mul_comm (v / q % 256) q]
      omega
  simpa [num] using key k 0

theorem num_be_fit (v : Int) (k : Nat) (h0 : 0 ≤ v) (h1 : v < 256 ^ k) : num (be v k) = v := by
  rw [num_be, Int.emod_eq_of_lt h0 h1]

end Go.Proofs.Ytgdfpmnbofnjfaa
