/- AddrNames: the small functions that it calls. -/
import Derived.Test.YtlmgbnpimmjijaaDoorNaC
import Derived.Test.YtlmgbnpimmjijaaDoorWalkA
import Derived.Test.YtlmgbnpimmjijaaDoorWalkB
import Derived.Test.YtlmgbnpimmjijaaDoorParsePfx
namespace Go.Proofs.YtlmgbnpimmjijaaDoor
open Go.RowKit

theorem isNode_yes (n : Int) (w : World) (h0 : 0 ≤ n) (h1 : n < 32) :
    Calls Tryd.prog 23 #[.int .i64 n] w fun e w' => e = .returned (.bool true) ∧ w = w' := by
  go_enter Tryd.func23, Tryd.ntmps23
  go_wp2
  go_ret
  exact ⟨rfl, rfl⟩

theorem isNode_no (n : Int) (w : World) (h : n < 0 ∨ 32 ≤ n) :
    Calls Tryd.prog 23 #[.int .i64 n] w fun e w' => e = .returned (.bool false) ∧ w = w' := by
  rcases h with h | h
  · have hd : decide (0 ≤ n) = false := by simp; omega
    go_enter Tryd.func23, Tryd.ntmps23
    go_wp2
    go_ret
    exact ⟨rfl, rfl⟩
  · have h0 : 0 ≤ n := by omega
    have hd : decide (n < 32) = false := by simp; omega
    go_enter Tryd.func23, Tryd.ntmps23
    go_wp2
    go_ret
    exact ⟨rfl, rfl⟩

theorem loopback_no (n : Int) (w : World) (h : n < 0 ∨ 32 ≤ n) :
    Calls Tryd.prog 6 #[.int .i64 n] w fun e w' => e = .returned (.tuple #[.int .u32 0, .int .i64 2]) ∧ w = w' := by
  go_enter Tryd.func6, Tryd.ntmps6
  go_wp2_with (go_at_call 23; refine (isNode_no _ _ h).mono ?_; rintro e w' ⟨rfl, rfl⟩)
  go_ret2
  exact ⟨rfl, rfl⟩

theorem router_yes (n : Int) (w : World) (h0 : 0 ≤ n) (h1 : n < 32) :
    Calls Tryd.prog 7 #[.int .i64 n] w fun e w' => e = .returned (.tuple #[.int .u64 (2199023255552 + n), .int .i64 0]) ∧ w = w' := by
  go_enter Tryd.func7, Tryd.ntmps7
  go_wp2_with (go_at_call 23; refine (isNode_yes _ _ (by omega) (by omega)).mono ?_; rintro e w' ⟨rfl, rfl⟩)
  go_ret2
  exact ⟨rfl, rfl⟩

theorem router_no (n : Int) (w : World) (h : n < 0 ∨ 32 ≤ n) :
    Calls Tryd.prog 7 #[.int .i64 n] w fun e w' => e = .returned (.tuple #[.int .u64 0, .int .i64 2]) ∧ w = w' := by
  go_enter Tryd.func7, Tryd.ntmps7
  go_wp2_with (go_at_call 23; refine (isNode_no _ _ h).mono ?_; rintro e w' ⟨rfl, rfl⟩)
  go_ret2
  exact ⟨rfl, rfl⟩

theorem rnode_five (w : World) :
    Calls Tryd.prog 8 #[.int .u64 2199023255557] w fun e w' => e = .returned (.tuple #[.int .i64 5, .bool true]) ∧ w = w' := by
  go_enter Tryd.func8, Tryd.ntmps8
  go_wp2
  go_ret2
  exact ⟨rfl, rfl⟩

theorem multi_five (w : World) :
    Calls Tryd.prog 17 #[.int .u64 2199023255557] w fun e w' => e = .returned (.bool false) ∧ w = w' := by
  have hb : bits BinOp.and .u64 2199023255557 1099511627776 = 0 := by decide +kernel
  go_enter Tryd.func17, Tryd.ntmps17
  go_wp2
  go_ret
  exact ⟨rfl, rfl⟩

theorem multi_broad (w : World) :
    Calls Tryd.prog 17 #[.int .u64 281474976710655] w fun e w' => e = .returned (.bool true) ∧ w = w' := by
  have hb : bits BinOp.and .u64 281474976710655 1099511627776 = 1099511627776 := by decide +kernel
  go_enter Tryd.func17, Tryd.ntmps17
  go_wp2
  go_ret
  exact ⟨rfl, rfl⟩

theorem seg_no (n : Int) (w : World) (h : 64 ≤ n) :
    Calls Tryd.prog 10 #[.int .i64 n] w fun e w' => e = .returned (.tuple #[esi 0 0 0 0 0 0 0 0 0 0, .int .i64 2]) ∧ w.alloc (esib 0 0 0 0 0 0 0 0 0 0) = w' := by
  have h0 : ¬ n < 0 := by omega
  go_enter Tryd.func10, Tryd.ntmps10
  go_wp2
  exact bodyPost_ret (v := .tuple #[esi 0 0 0 0 0 0 0 0 0 0, .int .i64 2]) (by simp [results, Tryd.results10, go_sem]) rfl ⟨rfl, rfl⟩

theorem seg_yes (n : Int) (w : World) (h : 0 ≤ n) (h1 : n < 64) :
    Calls Tryd.prog 10 #[.int .i64 n] w fun e w' => e = .returned (.tuple #[esi 3 0 0 0 0 0 0 0 0 (n + 1), .int .i64 0]) ∧ w.alloc (esib 3 0 0 0 0 0 0 0 0 (n + 1)) = w' := by
  go_enter Tryd.func10, Tryd.ntmps10
  go_wp2
  exact bodyPost_ret (v := .tuple #[esi 3 0 0 0 0 0 0 0 0 (n + 1), .int .i64 0]) (by simp [results, Tryd.results10, go_sem]) rfl ⟨rfl, rfl⟩

theorem byte_rng {xs : List Int} (h : ∀ v ∈ xs, 0 ≤ v ∧ v ≤ 255) (k : Nat) : 0 ≤ byteAt xs k ∧ byteAt xs k ≤ 255 := by
  unfold byteAt
  cases hk : xs[k]? with
  | none => simp
  | some v => exact h v (List.mem_of_getElem? hk)

theorem clean_n (w : World) : Calls Tryd.prog 9 #[pfx 167838211 16] w fun e w' => e = .returned (.tuple #[pfx 167837696 16, .int .i64 0]) ∧ Below w.heap.size w w' := by
  have h := clean_yes 167838211 16 (by decide +kernel) w
  rw [show cl 167838211 16 = 167837696 from by decide +kernel] at h
  exact h.mono fun _ _ ⟨he, hg⟩ => ⟨he, hg.below⟩

theorem seg_4 (w : World) : Calls Tryd.prog 10 #[.int .i64 4] w fun e w' => e = .returned (.tuple #[esi 3 0 0 0 0 0 0 0 0 5, .int .i64 0]) ∧ Below w.heap.size w w' :=
  (seg_yes 4 w (by omega) (by omega)).mono fun _ _ ⟨he, hw⟩ => ⟨he, hw ▸ (Below.refl _ w).alloc (Nat.le_refl _) _⟩

theorem seg_64 (w : World) : Calls Tryd.prog 10 #[.int .i64 64] w fun e w' => e = .returned (.tuple #[esi 0 0 0 0 0 0 0 0 0 0, .int .i64 2]) ∧ Below w.heap.size w w' :=
  (seg_no 64 w (by omega)).mono fun _ _ ⟨he, hw⟩ => ⟨he, hw ▸ (Below.refl _ w).alloc (Nat.le_refl _) _⟩

theorem ip_n (w : World) (hg : GlobIP w) : Calls Tryd.prog 11 #[.string ⟨#[49, 48, 46, 48, 46, 48, 46, 48, 49]⟩] w fun e w' => e = .returned (.tuple #[.int .u32 0, .int .i64 19]) ∧ Below w.heap.size w w' :=
  parseIP_no [49, 48, 46, 48, 46, 48, 46, 48, 49] (by decide) w hg (by decide +kernel)

theorem pfx_n (w : World) (hg : GlobIP w) (hl : GlobLen w) : Calls Tryd.prog 12 #[.string ⟨#[49, 48, 46, 49, 46, 50, 46, 51, 47, 49, 54]⟩] w fun e w' => e = .returned (.tuple #[pfx 0 0, .int .i64 3]) ∧ Below w.heap.size w w' :=
  parsePfx_form [49, 48, 46, 49, 46, 50, 46, 51, 47, 49, 54] [49, 48, 46, 49, 46, 50, 46, 51] [49, 54] true (by decide) [10, 1, 2, 3] 16 (by decide +kernel) (by decide +kernel) (by decide +kernel) w hg hl (by decide +kernel)

theorem pfx_z (w : World) (hg : GlobIP w) (hl : GlobLen w) : Calls Tryd.prog 12 #[.string ⟨#[48, 46, 48, 46, 48, 46, 48, 47, 48]⟩] w fun e w' => e = .returned (.tuple #[pfx 0 0, .int .i64 0]) ∧ Below w.heap.size w w' := by
  have h := parsePfx_yy [48, 46, 48, 46, 48, 46, 48, 47, 48] [48, 46, 48, 46, 48, 46, 48] [48] true (by decide) [0, 0, 0, 0] 0 (by decide +kernel) (by decide +kernel) (by decide +kernel) w hg hl (by decide +kernel)
  rw [show joined [0, 0, 0, 0] = 0 from by decide +kernel] at h
  exact h

theorem mac_n (w : World) (hg : GlobMAC w) : Calls Tryd.prog 14 #[.string ⟨#[48, 65, 58, 48, 98, 58, 48, 67, 58, 48, 100, 58, 48, 69, 58, 48, 102]⟩] w fun e w' => e = .returned (.tuple #[.int .u64 11042563100175, .int .i64 0]) ∧ Below w.heap.size w w' := by
  have h := parseMAC_yes [48, 65, 58, 48, 98, 58, 48, 67, 58, 48, 100, 58, 48, 69, 58, 48, 102] (by decide) [10, 11, 12, 13, 14, 15] w hg (by decide +kernel)
  rw [show joined [10, 11, 12, 13, 14, 15] = 11042563100175 from by decide +kernel] at h
  exact h

theorem mact_no (w : World) : Calls Tryd.prog 13 #[.int .u64 281474976710656] w fun e w' => e = .returned (.tuple #[.string ⟨#[]⟩, .int .i64 2]) ∧ Below w.heap.size w w' :=
  macText_no _ (by omega) w

theorem mact_yes (w : World) : Calls Tryd.prog 13 #[.int .u64 11042563100175] w fun e w' => e = .returned (.tuple #[.string ⟨#[48, 97, 58, 48, 98, 58, 48, 99, 58, 48, 100, 58, 48, 101, 58, 48, 102]⟩, .int .i64 0]) ∧ Below w.heap.size w w' := by
  have h := macText_n 11042563100175 (by omega) (by omega) w
  rw [show coP (macL 11042563100175) (List.finRange 6) = [48, 97, 58, 48, 98, 58, 48, 99, 58, 48, 100, 58, 48, 101, 58, 48, 102] from by decide +kernel] at h
  exact h

theorem esit_n (w : World) : Calls Tryd.prog 15 #[esi 3 0 0 0 0 0 0 0 0 5] w fun e w' => e = .returned (.string ⟨#[48, 51, 58, 48, 48, 58, 48, 48, 58, 48, 48, 58, 48, 48, 58, 48, 48, 58, 48, 48, 58, 48, 48, 58, 48, 48, 58, 48, 53]⟩) ∧ Below w.heap.size w w' := by
  have h := esiText_n 3 0 0 0 0 0 0 0 0 5 (byte_rng (by decide)) w
  rw [show coP [3, 0, 0, 0, 0, 0, 0, 0, 0, 5] (List.finRange 10) = [48, 51, 58, 48, 48, 58, 48, 48, 58, 48, 48, 58, 48, 48, 58, 48, 48, 58, 48, 48, 58, 48, 48, 58, 48, 48, 58, 48, 53] from by decide +kernel] at h
  exact h

theorem contains_n (w : World) : Calls Tryd.prog 16 #[pfx 167837696 16, .int .u32 167837705] w fun e w' => e = .returned (.bool true) ∧ Below w.heap.size w w' :=
  (contains_b 167837696 16 167837705 true (by decide +kernel) w).mono fun _ _ ⟨he, hg⟩ => ⟨he, hg.below⟩

theorem contains_z (w : World) : Calls Tryd.prog 16 #[pfx 0 33, .int .u32 0] w fun e w' => e = .returned (.bool false) ∧ Below w.heap.size w w' :=
  (contains_b 0 33 0 false (by decide +kernel) w).mono fun _ _ ⟨he, hg⟩ => ⟨he, hg.below⟩

end Go.Proofs.YtlmgbnpimmjijaaDoor
