/- Writers: a number written into its bytes. -/
import Derived.Test.YtgdfpmnbofnjfaaWrA
namespace Go.Proofs.Ytgdfpmnbofnjfaa
open Go.RowKit
set_option maxRecDepth 100000
set_option linter.unusedVariables false

/-- The last k bytes of a number, most significant byte first. -/
def be (v : Int) : Nat → List Int
  | 0 => []
  | k + 1 => v / 256 ^ k % 256 :: be v k

theorem be_length (v : Int) (k : Nat) : (be v k).length = k := by induction k <;> simp_all [be]
theorem be_byte (v : Int) (k : Nat) : ∀ x ∈ be v k, 0 ≤ x ∧ x ≤ 255 := by
  induction k with
  | zero => simp [be]
  | succ k ih =>
    intro x hx
    simp only [be, List.mem_cons] at hx
    rcases hx with rfl | hx
    · omega
    · exact ih x hx

theorem Row.set_ {w : World} {h cap : Nat} {bs : List Int} (H : Row w h cap bs) (j : Nat) (x : Int) : Row (w.setCell ⟨h, j, none⟩ (.int .u8 x)) h cap (bs.set j x) := by
  obtain ⟨cur, hh, hs, ht, hl, hm⟩ := H
  refine ⟨_, hh.set_ j (.int .u8 x), by simpa using hs, ?_, by simpa using hl, hm⟩
  rw [List.length_set, Array.toList_setIfInBounds, List.take_set, ht]
  simp [List.map_set]

theorem splice_step (xs : List Int) (o n k : Nat) (v x : Int) (hk : k < n) (ho : o + n ≤ xs.length) (hx : x = v / 256 ^ k % 256) :
    (xs.take (o + n - k) ++ be v k ++ xs.drop (o + n)).set (o + (n - 1 - k)) x = xs.take (o + n - (k + 1)) ++ be v (k + 1) ++ xs.drop (o + n) := by
  subst hx
  have e1 : o + (n - 1 - k) = o + n - (k + 1) := by omega
  have e2 : xs.take (o + n - k) = xs.take (o + n - (k + 1)) ++ [xs[o + n - (k + 1)]'(by omega)] := by
    rw [show o + n - k = (o + n - (k + 1)) + 1 by omega, List.take_succ_eq_append_getElem (by omega)]
  rw [e1, e2]
  simp only [List.append_assoc, be, List.cons_append]
  rw [List.set_append_right _ _ (by simp; omega)]
  have e3 : o + n - (k + 1) - (xs.take (o + n - (k + 1))).length = 0 := by simp; omega
  rw [e3]
  rfl

theorem pow_eight (k : Nat) : (2 : Int) ^ (8 * k) = 256 ^ k := by
  rw [Int.pow_mul]
  rfl

set_option maxHeartbeats 1000000 in
theorem wput64 (h o n c cap : Nat) (xs : List Int) (v : Int) (w : World) (hn : n ≤ 8) (ho : o + n ≤ xs.length) (h0 : 0 ≤ v) (h1 : v < 18446744073709551616) (H : Row w h cap xs) (hl : xs.length ≤ 1000000) :
    Calls Try.prog 88 #[.slice (some ⟨h, o, none⟩) n c, .int .u64 v] w fun e w' => e = .returned (.tuple #[]) ∧ Row w' h cap (xs.take o ++ be v n ++ xs.drop (o + n)) ∧ Only w h w' := by
  have HH := Lib.hid H
  clear H
  go_enter Try.func88, Try.ntmps88
  go_wp2
  go_loopw [7] (fun i wr => ∃ k : Nat, k ≤ n ∧ i = .int .i64 k ∧ Row wr h cap (xs.take (o + n - k) ++ be v k ++ xs.drop (o + n)) ∧ Only w h wr) (fun i _ => n - (intOf i).toNat)
  case atStart => exact ⟨0, Nat.zero_le _, rfl, by simpa [be] using HH.out, only_refl w h⟩
  case round =>
    obtain ⟨k, hk, rfl, hR, hO⟩ := hrel
    by_cases hlt : k < n
    · have hcell := hR.cell (o + (n - 1 - k)) (by simp [be_length]; omega)
      obtain ⟨y, hy⟩ : ∃ y, (xs.take (o + n - k) ++ be v k ++ xs.drop (o + n))[o + (n - 1 - k)]'(by simp [be_length]; omega) = y := ⟨_, rfl⟩
      rw [hy] at hcell
      have hfree : wr.frozen? ⟨h, o + (n - 1 - k), none⟩ = false := by
        obtain ⟨cur, hh, _⟩ := hR
        exact hh.free _
      have HR := Lib.hid hR
      have HO := Lib.hid hO
      clear hy hR hO
      go_wp2
      go_roundw
      case rel =>
        refine ⟨k + 1, by omega, by go_num, ?_, only_set HO.out (.inl rfl) _⟩
        have hs := HR.out.set_ (o + (n - 1 - k)) (v / 2 ^ (8 * k) % 256)
        rw [splice_step xs o n k v _ hlt ho (by rw [pow_eight])] at hs
        exact hs
      case measure => simp [intOf]; omega
    · have hke : k = n := by omega
      subst hke
      have HR := Lib.hid hR
      have HO := Lib.hid hO
      clear hR hO
      go_wp2
      go_end0
      exact ⟨rfl, by simpa using HR.out, HO.out⟩

theorem wput_nil (v : Int) (w : World) (n c : Nat) (a : Option Addr) (hn : n = 0) :
    Calls Try.prog 88 #[.slice a n c, .int .u64 v] w fun e w' => e = .returned (.tuple #[]) ∧ w = w' := by
  subst hn
  go_enter Try.func88, Try.ntmps88
  go_wp2
  go_loop [7] (fun i => i = .int .i64 0) (fun i => 0)
  case atStart => rfl
  case round =>
    subst hrel
    go_wp2
    go_end0
    exact ⟨rfl, rfl⟩

end Go.Proofs.Ytgdfpmnbofnjfaa
