/- The contract of MACText. -/
import Derived.Test.YtlmgbnpimmjijaaDoorAll
namespace Go.Proofs.YtlmgbnpimmjijaaDoor
open Go.RowKit Go.Shelf

/-- The six bytes of a hardware address. -/
def macL (m : Int) : List Int := [m / 1099511627776, m / 4294967296 % 256, m / 16777216 % 256, m / 65536 % 256, m / 256 % 256, m % 256]

/-- Their block, and the block of the slice of it. -/
abbrev macb (m : Int) : Obj := .cells #[.int .u8 (m / 1099511627776), .int .u8 (m / 4294967296 % 256), .int .u8 (m / 16777216 % 256), .int .u8 (m / 65536 % 256), .int .u8 (m / 256 % 256), .int .u8 (m % 256)] 70
abbrev macs (w : World) : Obj := .cells #[.slice (some ⟨w.heap.size, 0, none⟩) 6 6] 75

theorem macL_byte (m : Int) (h0 : 0 ≤ m) (h1 : m ≤ 281474976710655) (k : Nat) : 0 ≤ byteAt (macL m) k ∧ byteAt (macL m) k ≤ 255 := by
  unfold byteAt macL
  rcases k with _ | _ | _ | _ | _ | _ | k <;> simp <;> omega

theorem mac_cell (m : Int) (w : World) (k : Nat) (hk : k < 6) : ((w.alloc (macb m)).alloc (macs w)).cell? ⟨w.heap.size, k, none⟩ = some (.int .u8 (byteAt (macL m) k)) := by
  have h6 : k = 0 ∨ k = 1 ∨ k = 2 ∨ k = 3 ∨ k = 4 ∨ k = 5 := by omega
  rcases h6 with rfl | rfl | rfl | rfl | rfl | rfl <;> simp [go_sem, byteAt, macL]

theorem macText_no (m : Int) (h0 : 281474976710655 < m) (w : World) :
    Calls Tryd.prog 13 #[.int .u64 m] w fun e w' => e = .returned (.tuple #[.string ⟨#[]⟩, .int .i64 2]) ∧ Below w.heap.size w w' := by
  go_enter Tryd.func13, Tryd.ntmps13
  go_wp2_with fail
  go_ret2
  exact ⟨rfl, Below.refl _ _⟩

set_option maxHeartbeats 2000000 in
set_option maxRecDepth 100000 in
theorem macText_yes (m : Int) (h0 : 0 ≤ m) (h1 : m ≤ 281474976710655) (w : World) (hw : GlobPow w) :
    Calls Tryd.prog 13 #[.int .u64 m] w fun e w' => e = .returned (.tuple #[.string ⟨(coP (macL m) (List.finRange 6)).toArray⟩, .int .i64 0]) ∧ Below w.heap.size w w' := by
  have hb1 : Below w.heap.size w ((w.alloc (macb m)).alloc (macs w)) := ((Below.refl _ w).alloc (Nat.le_refl _) _).alloc (by simp) _
  have KEY := Lib.hid (colons_b 6 (by omega) (macL m) (macL_byte m h0 h1) 42 #[.pointer (some ⟨w.heap.size + 1, 0, none⟩)] _ (pow_keep hw hb1)
    (enters_of Tryd.func42 (by kernel_rfl) rfl)
    (fun W0 hW0 => by
      have hz := hW0.size
      simp at hz
      refine all_seq _ (w.heap.size + 1) w.heap.size 6 6 (by omega) (by simp; omega) (macL m) W0 (by omega) (by omega) ((hW0.cell (p := ⟨w.heap.size + 1, 0, none⟩) (by simp)).trans (by simp [go_sem])) (fun k hk => (hW0.cell (p := ⟨w.heap.size, k, none⟩) (by simp; omega)).trans ?_)
      exact mac_cell m w k hk))
  have HB := Lib.hid hb1
  clear hb1 hw
  go_enter Tryd.func13, Tryd.ntmps13
  go_wp2_with fail
  refine wp_loop_rounds 7 ?_
  rw [rounds_succ]
  go_wp2_with fail
  rw [rounds_succ]
  go_wp2_with fail
  rw [rounds_succ]
  go_wp2_with fail
  rw [rounds_succ]
  go_wp2_with fail
  rw [rounds_succ]
  go_wp2_with fail
  rw [rounds_succ]
  go_wp2_with fail
  rw [rounds_succ]
  go_wp2_with fail
  refine (callsIn_wide.1 (all_in Fence.wide 1 trivial rfl w.heap.size 6 6 _)).mono ?_
  rintro e w' ⟨rfl, rfl⟩
  go_wp2_with fail
  refine KEY.out.mono ?_
  rintro e w' ⟨rfl, hb2⟩
  go_wp2_with fail
  go_ret2
  exact ⟨rfl, HB.out.trans (hb2.mono (by simp; omega))⟩

end Go.Proofs.YtlmgbnpimmjijaaDoor
