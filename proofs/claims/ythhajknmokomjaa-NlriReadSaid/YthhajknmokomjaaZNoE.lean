/- Routes: the first number that is not zero. -/
import Derived.Test.YthhajknmokomjaaZNoA
import Derived.LoopNIn
import Derived.LoopIn
namespace Go.Proofs.Ythhajknmokomjaa
open Go.RowKit
set_option linter.unusedVariables false

theorem orl_drop {xs : List Int} {k : Nat} (h : k < xs.length) : orl (xs.drop k) = if xs[k] = 0 then orl (xs.drop (k + 1)) else xs[k] := by
  rw [List.drop_eq_getElem_cons h, orl]

theorem or_any (xs : List Int) (B c : Nat) (hn : xs.length ≤ 1000) (w : World) (hc : ∀ j (h : j < xs.length), w.cell? ⟨B, j, none⟩ = some (.int .i64 xs[j])) :
    Calls Try.prog 31 #[.slice (some ⟨B, 0, none⟩) xs.length c] w fun e w' => e = .returned (.int .i64 (orl xs)) ∧ w = w' := by
  have HC := Lib.hid hc
  clear hc
  go_enter Try.func31, Try.ntmps31
  go_wp2_with fail
  go_loopw [8] (fun i wr => ∃ n : Nat, n ≤ xs.length ∧ i = .int .i64 n ∧ w = wr ∧ orl xs = orl (xs.drop n)) (fun i _ => xs.length - (intOf i).toNat)
  case atStart => exact ⟨0, Nat.zero_le _, rfl, rfl, rfl⟩
  case round =>
    obtain ⟨n, hn, rfl, rfl, hfd⟩ := hrel
    by_cases hlt : n < xs.length
    · have hx := HC.out n hlt
      rw [orl_drop hlt] at hfd
      obtain ⟨x, hxe⟩ : ∃ x, xs[n] = x := ⟨_, rfl⟩
      rw [hxe] at hx hfd
      by_cases hz : x = 0
      · subst hz
        rw [if_pos rfl] at hfd
        have HF := Lib.hid hfd
        clear hfd hxe
        go_wp2
        go_roundw
        case rel => exact ⟨n + 1, by omega, by simp, trivial, HF.out⟩
        case measure => simp [intOf]; omega
      · rw [if_neg hz] at hfd
        have HF := Lib.hid hfd
        have hb : (x != 0) = true := by simpa using hz
        clear hfd hxe hz
        go_wp2
        go_ret
        exact ⟨by rw [HF.out]; rfl, rfl⟩
    · obtain rfl : n = xs.length := by omega
      rw [List.drop_length] at hfd
      have HF := Lib.hid hfd
      clear hfd
      go_wp2
      go_ret
      exact ⟨by rw [HF.out]; rfl, rfl⟩

end Go.Proofs.Ythhajknmokomjaa
