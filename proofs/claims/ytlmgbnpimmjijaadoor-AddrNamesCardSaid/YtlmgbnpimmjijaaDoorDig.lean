/- Contracts of digit. -/
import Derived.Test.YtlmgbnpimmjijaaDoorRows
import Derived.Test.YtlmgbnpimmjijaaDoorPure
import Derived.WalkKit
import Derived.ProofKit
import Derived.OpenShut
import Derived.Lib.Hide
namespace Go.Proofs.YtlmgbnpimmjijaaDoor
open Go.RowKit

theorem digit_b (c : Int) (h0 : 0 ≤ c) (h1 : c ≤ 255) (w : World) :
    Calls Tryd.prog 40 #[.int .u8 c] w fun e w' => e = .returned (.int .i64 (dg c)) ∧ w = w' := by
  by_cases a : 48 ≤ c ∧ c ≤ 57
  · have e : dg c = c - 48 := by unfold dg; rw [if_pos a]
    rw [e]
    obtain ⟨a1, a2⟩ := a
    clear e
    go_enter Tryd.func40, Tryd.ntmps40
    go_wp2
    go_ret
    exact ⟨rfl, rfl⟩
  · by_cases b : 97 ≤ c ∧ c ≤ 102
    · have e : dg c = c - 97 + 10 := by unfold dg; rw [if_neg a, if_pos b]
      rw [e]
      obtain ⟨b1, b2⟩ := b
      have d1 : (decide (c ≤ 57)) = false := by simp; omega
      clear e a
      go_enter Tryd.func40, Tryd.ntmps40
      go_wp2
      go_ret
      exact ⟨rfl, rfl⟩
    · by_cases d : 65 ≤ c ∧ c ≤ 70
      · have e : dg c = c - 65 + 10 := by unfold dg; rw [if_neg a, if_neg b, if_pos d]
        rw [e]
        obtain ⟨b1, b2⟩ := d
        have d1 : (decide (c ≤ 57)) = false := by simp; omega
        have d2 : (decide (97 ≤ c)) = false := by simp; omega
        clear e a b
        go_enter Tryd.func40, Tryd.ntmps40
        go_wp2
        go_ret
        exact ⟨rfl, rfl⟩
      · have e : dg c = 255 := by unfold dg; rw [if_neg a, if_neg b, if_neg d]
        rw [e]
        have d1 : (decide (48 ≤ c) && decide (c ≤ 57)) = false := by simp; omega
        have hc : c < 48 ∨ (57 < c ∧ c < 65) ∨ (70 < c ∧ c < 97) ∨ 102 < c := by omega
        clear e a b d d1
        rcases hc with hc | ⟨hc, hc2⟩ | ⟨hc, hc2⟩ | hc
        · have d1 : (decide (48 ≤ c)) = false := by simp; omega
          have d2 : (decide (97 ≤ c)) = false := by simp; omega
          have d3 : (decide (65 ≤ c)) = false := by simp; omega
          go_enter Tryd.func40, Tryd.ntmps40
          go_wp2
          go_ret
          exact ⟨rfl, rfl⟩
        · have d1 : (decide (48 ≤ c)) = true := by simp; omega
          have d4 : (decide (c ≤ 57)) = false := by simp; omega
          have d2 : (decide (97 ≤ c)) = false := by simp; omega
          have d3 : (decide (65 ≤ c)) = false := by simp; omega
          go_enter Tryd.func40, Tryd.ntmps40
          go_wp2
          go_ret
          exact ⟨rfl, rfl⟩
        · have d1 : (decide (48 ≤ c)) = true := by simp; omega
          have d4 : (decide (c ≤ 57)) = false := by simp; omega
          have d2 : (decide (97 ≤ c)) = false := by simp; omega
          have d3 : (decide (65 ≤ c)) = true := by simp; omega
          have d5 : (decide (c ≤ 70)) = false := by simp; omega
          go_enter Tryd.func40, Tryd.ntmps40
          go_wp2
          go_ret
          exact ⟨rfl, rfl⟩
        · have d1 : (decide (48 ≤ c)) = true := by simp; omega
          have d4 : (decide (c ≤ 57)) = false := by simp; omega
          have d2 : (decide (97 ≤ c)) = true := by simp; omega
          have d6 : (decide (c ≤ 102)) = false := by simp; omega
          have d3 : (decide (65 ≤ c)) = true := by simp; omega
          have d5 : (decide (c ≤ 70)) = false := by simp; omega
          go_enter Tryd.func40, Tryd.ntmps40
          go_wp2
          go_ret
          exact ⟨rfl, rfl⟩

end Go.Proofs.YtlmgbnpimmjijaaDoor
