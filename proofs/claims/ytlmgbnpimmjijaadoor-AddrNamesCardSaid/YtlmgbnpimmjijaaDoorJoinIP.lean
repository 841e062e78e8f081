/- The contract of join[leafmesh/api.IP]. -/
import Derived.Test.YtlmgbnpimmjijaaDoorNumA
namespace Go.Proofs.YtlmgbnpimmjijaaDoor
open Go.RowKit

theorem or_IP (n b : Int) (h0 : 0 ≤ n) (h1 : n < 16777216) (b0 : 0 ≤ b) (b1 : b ≤ 255) : bits BinOp.or .u32 (n * 256) b = n * 256 + b := by
  obtain ⟨m, rfl⟩ := Int.eq_ofNat_of_zero_le h0
  obtain ⟨c, rfl⟩ := Int.eq_ofNat_of_zero_le b0
  have e1 : BitVec.ofInt 32 ((m : Int) * 256) = BitVec.ofNat 32 (m * 256) := by apply BitVec.eq_of_toNat_eq; simp; omega
  have e2 : BitVec.ofInt 32 (c : Int) = BitVec.ofNat 32 c := by apply BitVec.eq_of_toNat_eq; simp
  have e3 : (BitVec.ofNat 32 (m * 256) ||| BitVec.ofNat 32 c).toNat = m * 256 + c := by
    rw [BitVec.toNat_or, BitVec.toNat_ofNat, BitVec.toNat_ofNat, Nat.mod_eq_of_lt (by omega), Nat.mod_eq_of_lt (by omega)]
    have := Nat.shiftLeft_add_eq_or_of_lt (i := 8) (b := c) (by omega) m
    rw [Nat.shiftLeft_eq] at this
    exact this.symm
  show IntKind.u32.wrap ((BitVec.ofInt 32 ((m : Int) * 256) ||| BitVec.ofInt 32 (c : Int)).toNat : Int) = _
  rw [e1, e2, e3]
  have e4 : IntKind.u32.wrap ((m * 256 + c : Nat) : Int) = ((m * 256 + c : Nat) : Int) % 4294967296 := by rfl
  rw [e4]
  omega

set_option maxHeartbeats 1000000 in
theorem joinIP_b (g cap : Nat) (xs : List Int) (w : World) (hl : xs.length ≤ 4) (hl0 : 0 < xs.length) (hx : ∀ j (h : j < xs.length), 0 ≤ xs[j] ∧ xs[j] ≤ 255)
    (hc : ∀ j (h : j < xs.length), w.cell? ⟨g, j, none⟩ = some (.int .u32 xs[j])) :
    Calls Tryd.prog 27 #[.slice (some ⟨g, 0, none⟩) xs.length cap] w fun e w' => e = .returned (.int .u32 (joined xs)) ∧ w = w' := by
  have HC := Lib.hid hc
  have HX := Lib.hid hx
  clear hc hx
  go_enter Tryd.func27, Tryd.ntmps27
  go_wp2
  go_loop [3, 8] (fun n i => ∃ k : Nat, k ≤ xs.length ∧ i = .int .i64 k ∧ n = .int .u32 (joined (xs.take k))) (fun _ i => xs.length - (intOf i).toNat)
  case atStart => exact ⟨0, Nat.zero_le _, rfl, rfl⟩
  case round =>
    obtain ⟨k, hk, rfl, rfl⟩ := hrel
    by_cases hlt : k < xs.length
    · have hcell := HC.out k hlt
      obtain ⟨hx0, hx1⟩ := HX.out k hlt
      obtain ⟨x, hxe⟩ : ∃ x, xs[k] = x := ⟨_, rfl⟩
      rw [hxe] at hcell hx0 hx1
      obtain ⟨n, hne⟩ : ∃ n, joined (xs.take k) = n := ⟨_, rfl⟩
      have hn := joined_bound (xs.take k) (fun j h => by rw [List.getElem_take]; exact HX.out j (by simp at h; omega))
      rw [hne] at hn ⊢
      have HS : Hid (joined (xs.take (k + 1)) = n * 256 + x) := Lib.hid (by rw [List.take_succ_eq_append_getElem hlt, joined_snoc, hne, hxe])
      have hn0 : 0 ≤ n := hn.1
      have hn1 : n < 16777216 := by
        have h2 := hn.2
        have hle : (List.take k xs).length ≤ 3 := by simp; omega
        have := pow_le 3 hle
        omega
      have hor := or_IP n x hn0 hn1 hx0 hx1
      clear hn hxe hne
      go_wp2
      go_round
      case rel => exact ⟨k + 1, by omega, by go_num, by rw [HS.out]⟩
      case measure => simp [intOf]; omega
    · have hke : k = xs.length := by omega
      subst hke
      go_wp2
      go_ret
      exact ⟨rfl, rfl⟩

end Go.Proofs.YtlmgbnpimmjijaaDoor
