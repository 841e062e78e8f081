/- Graphs: New. -/
import Derived.Test.YtfmjcjkifjndgaaToJ
import Derived.Laws.EntriesVeiled
import Derived.Laws.ResultCell
namespace Go.Proofs.Ytfmjcjkifjndgaa
open Go.RowKit
set_option linter.unusedVariables false
set_option linter.unusedSimpArgs false
set_option maxRecDepth 100000

def fstF (n : Nat) : Nat → Bool := fun j => decide (j < n)
theorem fstF_succ (n : Nat) : put (fstF n) n true = fstF (n + 1) := by
  funext j
  unfold put fstF
  by_cases h : j = n
  · subst h; simp
  · rw [if_neg h]
    by_cases h2 : j < n
    · simp [h2]; omega
    · simp [h2]; omega

theorem full_any (n : Nat) (hn : n ≤ 128) (w : World) :
    Calls Try.prog 44 #[.int .i64 (n : Int)] w fun e w' => (∃ x0 x1 : Int, e = .returned (.agg #[.int .u64 x0, .int .u64 x1]) ∧ Bs x0 x1 (fstF n)) ∧ Below w.heap.size w w' := by
  obtain ⟨W0, hW0⟩ : ∃ W0, ((w.alloc (.cells #[.int .u64 0, .int .u64 0] 48)).alloc (.cells #[.int .u64 0, .int .u64 0] 48)) = W0 := ⟨_, rfl⟩
  have hB0 : Below w.heap.size w W0 := by
    rw [← hW0]
    exact ((Below.refl _ w).alloc (Nat.le_refl _) _).alloc (by simp) _
  have hs0 : w.heap.size + 1 < W0.heap.size := by rw [← hW0]; simp
  have hR : Has W0 w.heap.size 48 #[.int .u64 0, .int .u64 0] := by rw [← hW0]; exact (Has.new _ _ _).below ((Below.refl _ _).alloc (Nat.le_refl _) _)
  have hS : Has W0 (w.heap.size + 1) 48 #[.int .u64 0, .int .u64 0] := by
    have := Has.new (w.alloc (.cells #[.int .u64 0, .int .u64 0] 48)) 48 #[.int .u64 0, .int .u64 0]
    rw [World.size_alloc] at this
    rw [← hW0]; exact this
  have HB0 := Lib.hid hB0
  have HR := Lib.hid hR
  have HS := Lib.hid hS
  have HW := Lib.hid hW0
  clear hB0 hR hS hW0
  go_enter Try.func44, Try.ntmps44
  go_upto_region 2 with fail
  rw [HW.out]
  go_wp2_with fail
  go_loopw [6] (fun i wr => ∃ k : Nat, k ≤ n ∧ i = .int .i64 k ∧ (∃ y0 y1 : Int, Has wr (w.heap.size + 1) 48 #[.int .u64 y0, .int .u64 y1] ∧ Bs y0 y1 (fstF k)) ∧ Only W0 (w.heap.size + 1) wr) (fun i _ => n - (intOf i).toNat)
  case atStart => exact ⟨0, Nat.zero_le _, rfl, ⟨0, 0, HS.out, by
    have : fstF 0 = fun _ => false := by funext j; simp [fstF]
    rw [this]; exact Bs.none⟩, only_refl _ _⟩
  case round =>
    obtain ⟨k, hk, rfl, ⟨y0, y1, hy, hBy⟩, hO⟩ := hrel
    by_cases hlt : k < n
    · have hkn : (k : Int) < (n : Int) := by omega
      have HY := Lib.hid hy
      have HBY := Lib.hid hBy
      have HO := Lib.hid hO
      clear hy hBy hO
      go_wp2_with (go_at_call 55; refine (put_any (w.heap.size + 1) 0 48 _ y0 y1 (fstF k) k true (by omega) wr HY.out rfl rfl HBY.out).mono ?_; rintro e W6 ⟨⟨v6, rfl⟩, z0, z1, hB6, hH6, hO6⟩; have HB6 := Lib.hid hB6; have HH6 := Lib.hid hH6; have HO6 := Lib.hid hO6; clear hB6 hH6 hO6)
      go_roundw
      case rel => exact ⟨k + 1, by omega, by go_num, ⟨z0, z1, HH6.out, by rw [← fstF_succ]; exact HB6.out⟩, only_trans HO.out HO6.out⟩
      case measure => simp [intOf]; omega
    · obtain rfl : k = n := by omega
      have hr2 : Has wr w.heap.size 48 #[.int .u64 0, .int .u64 0] := HR.out.grown hO (by intro h9; injection h9 with h9; omega)
      have c0 : wr.cell? ⟨w.heap.size + 1, 0, none⟩ = some (.int .u64 y0) := hy.cell 0
      have c1 : wr.cell? ⟨w.heap.size + 1, 1, none⟩ = some (.int .u64 y1) := hy.cell 1
      have d0 : wr.cell? ⟨w.heap.size, 0, none⟩ = some (.int .u64 0) := hr2.cell 0
      have d1 : wr.cell? ⟨w.heap.size, 1, none⟩ = some (.int .u64 0) := hr2.cell 1
      have f0 := hr2.free 0
      have f1 := hr2.free 1
      have HBY := Lib.hid hBy
      have HBl : Hid (Below w.heap.size w wr) := Lib.hid (below_only HB0.out hO (by omega) (by omega))
      have q0 : ((wr.setCell ⟨w.heap.size, 0, none⟩ (.int .u64 y0)).setCell ⟨w.heap.size, 1, none⟩ (.int .u64 y1)).cell? ⟨w.heap.size, 0, none⟩ = some (.int .u64 y0) := ((hr2.set_ 0 (.int .u64 y0)).set_ 1 (.int .u64 y1)).cell 0
      have q1 : ((wr.setCell ⟨w.heap.size, 0, none⟩ (.int .u64 y0)).setCell ⟨w.heap.size, 1, none⟩ (.int .u64 y1)).cell? ⟨w.heap.size, 1, none⟩ = some (.int .u64 y1) := ((hr2.set_ 0 (.int .u64 y0)).set_ 1 (.int .u64 y1)).cell 1
      clear hBy hO hr2 hy
      go_wp2_with fail
      refine bodyPost_ret (v := .agg #[.int .u64 y0, .int .u64 y1]) (by simp [results, Try.results44, go_sem, q0, q1]) rfl ⟨⟨y0, y1, rfl, HBY.out⟩, ?_⟩
      exact (HBl.out.setCell (p := ⟨w.heap.size, 0, none⟩) (Nat.le_refl _) _).setCell (p := ⟨w.heap.size, 1, none⟩) (Nat.le_refl _) _

/-- A number of nodes, in range. -/
def e0 (N : Int) : Int := if 1 ≤ N ∧ N ≤ 32 then 0 else 2
def e1 (n : Nat) : Int := if n ≤ 128 then 0 else 5
def inN (N k : Int) : Bool := decide (0 ≤ k) && decide (k < N)
def eR (N : Int) (x : LK) : Int := if inN N x.a = true ∧ inN N x.b = true ∧ 1 ≤ x.c ∧ x.c ≤ 1000 then 0 else 2
def eL (x : LK) : Int := if x.a ≠ x.b then 0 else 12

theorem unless_any (b : Bool) (r : Int) (w : World) :
    Calls Try.prog 62 #[.bool b, .int .i64 r] w fun e w' => e = .returned (.int .i64 (if b = true then 0 else r)) ∧ w = w' := by
  cases b
  all_goals
    go_enter Try.func62, Try.ntmps62
    go_wp2
    go_ret
    exact ⟨rfl, rfl⟩

theorem c60 (k N : Int) (b2 : Nat) (w : World) (c : w.cell? ⟨b2, 0, none⟩ = some (.int .i64 N)) :
    Calls Try.prog 60 #[.int .i64 k, .pointer (some ⟨b2, 0, none⟩)] w fun e w' => e = .returned (.bool (inN N k)) ∧ w = w' := by
  unfold inN
  by_cases h : 0 ≤ k
  · have hd : decide (0 ≤ k) = true := by simpa using h
    go_enter Try.func60, Try.ntmps60
    go_wp2
    go_ret
    exact ⟨by simp [h], rfl⟩
  · have hd : decide (0 ≤ k) = false := by simpa using h
    go_enter Try.func60, Try.ntmps60
    go_wp2
    go_ret
    exact ⟨by simp [h], rfl⟩

theorem c61 (N : Int) (b2 : Nat) (w : World) (c : w.cell? ⟨b2, 0, none⟩ = some (.int .i64 N)) :
    Calls Try.prog 61 #[.pointer (some ⟨b2, 0, none⟩)] w fun e w' => e = .returned (.int .i64 (e0 N)) ∧ w = w' := by
  by_cases h : 1 ≤ N
  · have hd : decide (1 ≤ N) = true := by simpa using h
    have HE : Hid ((if decide (N ≤ 32) = true then (0 : Int) else 2) = e0 N) := Lib.hid (by unfold e0; by_cases h2 : N ≤ 32 <;> simp [h, h2])
    go_enter Try.func61, Try.ntmps61
    go_wp2_with (go_at_call 62; refine (unless_any _ _ _).mono ?_; rintro e w' ⟨rfl, rfl⟩; rw [HE.out])
    go_ret
    exact ⟨rfl, rfl⟩
  · have hd : decide (1 ≤ N) = false := by simpa using h
    have HE : Hid ((if false = true then (0 : Int) else 2) = e0 N) := Lib.hid (by unfold e0; simp [h])
    go_enter Try.func61, Try.ntmps61
    go_wp2_with (go_at_call 62; refine (unless_any _ _ _).mono ?_; rintro e w' ⟨rfl, rfl⟩; rw [HE.out])
    go_ret
    exact ⟨rfl, rfl⟩

theorem c63 (A : Option Addr) (n c : Nat) (b3 : Nat) (w : World) (hn : n ≤ 9223372036854775807) (hc : w.cell? ⟨b3, 0, none⟩ = some (.slice A n c)) :
    Calls Try.prog 63 #[.pointer (some ⟨b3, 0, none⟩)] w fun e w' => e = .returned (.int .i64 (e1 n)) ∧ w = w' := by
  by_cases h : n ≤ 128
  · have hd : decide ((n : Int) ≤ 128) = true := by simp; omega
    have HE : Hid (e1 n = 0) := Lib.hid (by unfold e1; simp [h])
    go_enter Try.func63, Try.ntmps63
    go_wp2_with (go_at_call 62; refine (unless_any true _ _).mono ?_; rintro e w' ⟨rfl, rfl⟩)
    go_ret
    exact ⟨by rw [HE.out]; rfl, rfl⟩
  · have hd : decide ((n : Int) ≤ 128) = false := by simp; omega
    have HE : Hid (e1 n = 5) := Lib.hid (by unfold e1; simp [h])
    go_enter Try.func63, Try.ntmps63
    go_wp2_with (go_at_call 62; refine (unless_any false _ _).mono ?_; rintro e w' ⟨rfl, rfl⟩)
    go_ret
    exact ⟨by rw [HE.out]; rfl, rfl⟩

theorem c65 (x : LK) (b8 : Nat) (w : World) (q0 : w.cell? ⟨b8, 0, none⟩ = some (.int .i64 x.a)) (q1 : w.cell? ⟨b8, 1, none⟩ = some (.int .i64 x.b)) :
    Calls Try.prog 65 #[.pointer (some ⟨b8, 0, none⟩)] w fun e w' => e = .returned (.int .i64 (eL x)) ∧ w = w' := by
  have HE : Hid ((if (x.a != x.b) = true then (0 : Int) else 12) = eL x) := Lib.hid (by unfold eL; by_cases h : x.a = x.b <;> simp [h])
  go_enter Try.func65, Try.ntmps65
  go_wp2_with (go_at_call 62; refine (unless_any _ _ _).mono ?_; rintro e w' ⟨rfl, rfl⟩; rw [HE.out])
  go_ret
  exact ⟨rfl, rfl⟩

set_option maxHeartbeats 2000000 in
theorem c64 (N : Int) (x : LK) (b2 b5 b8 : Nat) (w : World) (c2 : w.cell? ⟨b2, 0, none⟩ = some (.int .i64 N)) (c5 : w.cell? ⟨b5, 0, none⟩ = some (.func (.func 60) #[] #[.pointer (some ⟨b2, 0, none⟩)])) (q0 : w.cell? ⟨b8, 0, none⟩ = some (.int .i64 x.a)) (q1 : w.cell? ⟨b8, 1, none⟩ = some (.int .i64 x.b)) (q2 : w.cell? ⟨b8, 2, none⟩ = some (.int .i64 x.c)) :
    Calls Try.prog 64 #[.pointer (some ⟨b5, 0, none⟩), .pointer (some ⟨b8, 0, none⟩)] w fun e w' => e = .returned (.int .i64 (eR N x)) ∧ w = w' := by
  cases ha : inN N x.a
  · have HE : Hid (eR N x = 2) := Lib.hid (by unfold eR; simp [ha])
    have HA := Lib.hid ha
    clear ha
    go_enter Try.func64, Try.ntmps64
    go_wp2_with (first
      | (go_at_call 60; refine (c60 x.a N b2 _ c2).mono ?_; rintro e w' ⟨rfl, rfl⟩; rw [HA.out])
      | (go_at_call 62; refine (unless_any false _ _).mono ?_; rintro e w' ⟨rfl, rfl⟩))
    go_ret
    exact ⟨by rw [HE.out]; rfl, rfl⟩
  · cases hb : inN N x.b
    · have HE : Hid (eR N x = 2) := Lib.hid (by unfold eR; simp [hb])
      have HA := Lib.hid ha
      have HB := Lib.hid hb
      clear ha hb
      go_enter Try.func64, Try.ntmps64
      go_wp2_with (first
        | (go_at_call 60; have t1 := HA; refine (c60 x.a N b2 _ c2).mono ?_; rintro e w' ⟨rfl, rfl⟩; rw [HA.out]; clear HA t1)
        | (go_at_call 60; refine (c60 x.b N b2 _ c2).mono ?_; rintro e w' ⟨rfl, rfl⟩; rw [HB.out])
        | (go_at_call 62; refine (unless_any false _ _).mono ?_; rintro e w' ⟨rfl, rfl⟩))
      go_ret
      exact ⟨by rw [HE.out]; rfl, rfl⟩
    · have HA := Lib.hid ha
      have HB := Lib.hid hb
      by_cases h1 : 1 ≤ x.c
      · have hd : decide (1 ≤ x.c) = true := by simpa using h1
        have HE : Hid ((if decide (x.c ≤ 1000) = true then (0 : Int) else 2) = eR N x) := Lib.hid (by unfold eR; by_cases h2 : x.c ≤ 1000 <;> simp [ha, hb, h1, h2])
        clear ha hb
        go_enter Try.func64, Try.ntmps64
        go_wp2_with (first
          | (go_at_call 60; have t1 := HA; refine (c60 x.a N b2 _ c2).mono ?_; rintro e w' ⟨rfl, rfl⟩; rw [HA.out]; clear HA t1)
          | (go_at_call 60; refine (c60 x.b N b2 _ c2).mono ?_; rintro e w' ⟨rfl, rfl⟩; rw [HB.out])
          | (go_at_call 62; refine (unless_any _ _ _).mono ?_; rintro e w' ⟨rfl, rfl⟩; rw [HE.out]))
        go_ret
        exact ⟨rfl, rfl⟩
      · have hd : decide (1 ≤ x.c) = false := by simpa using h1
        have HE : Hid (eR N x = 2) := Lib.hid (by unfold eR; simp [h1])
        clear ha hb
        go_enter Try.func64, Try.ntmps64
        go_wp2_with (first
          | (go_at_call 60; have t1 := HA; refine (c60 x.a N b2 _ c2).mono ?_; rintro e w' ⟨rfl, rfl⟩; rw [HA.out]; clear HA t1)
          | (go_at_call 60; refine (c60 x.b N b2 _ c2).mono ?_; rintro e w' ⟨rfl, rfl⟩; rw [HB.out])
          | (go_at_call 62; refine (unless_any false _ _).mono ?_; rintro e w' ⟨rfl, rfl⟩))
        go_ret
        exact ⟨by rw [HE.out]; rfl, rfl⟩

end Go.Proofs.Ytfmjcjkifjndgaa
