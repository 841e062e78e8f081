/- The iterator over the ten bytes of an identifier. -/
import Derived.RangeFuncBox
import Derived.RangeFuncNested
import Derived.RangeFuncBound
import Derived.RangeFuncCalls
import Derived.RangeFuncLeaves
import Derived.Shelf.Abstract
import Derived.WalkKit
import Derived.OwnWalkIn
import Derived.TacticsInMore
import Derived.LoopNIn
import Derived.LoopIn
import Derived.Test.YtbaikpfibojdnaaRows
import Derived.ProofKit
import Derived.OpenShut
import Derived.Lib.Hide
namespace Go.Proofs.Ytbaikpfibojdnaa
open Go.RowKit Go.Shelf

attribute [local go_sem] Oper.semAt_some

/-- The ten bytes of an identifier, as a value and as a block. -/
abbrev esi (a b c d e f g h i j : Int) : Value := .agg #[.int .u8 a, .int .u8 b, .int .u8 c, .int .u8 d, .int .u8 e, .int .u8 f, .int .u8 g, .int .u8 h, .int .u8 i, .int .u8 j]
abbrev esib (a b c d e f g h i j : Int) : Obj := .cells #[.int .u8 a, .int .u8 b, .int .u8 c, .int .u8 d, .int .u8 e, .int .u8 f, .int .u8 g, .int .u8 h, .int .u8 i, .int .u8 j] 57

/-- The positions that have come when k rounds are over. -/
def first (k : Nat) : List (Fin 10) := (List.finRange 10).take k
theorem first_succ (k : Nat) (h : k < 10) : first (k + 1) = first k ++ [⟨k, h⟩] := by
  unfold first
  rw [List.take_succ_eq_append_getElem (by simpa using h)]
  simp
theorem first_length (k : Nat) (h : k ≤ 10) : (first k).length = k := by simp [first]; omega
theorem first_zero : first 0 = [] := rfl

/-- The byte at a position. -/
def byteAt (l : List Int) (k : Nat) : Int := l[k]?.getD 0

/-- What a round is handed: the position and the byte there. -/
def oct (zs : List Int) : Fin 10 → Array Value := fun k => #[.int .i64 (k.val : Int), .int .u8 (byteAt zs k.val)]

theorem octets_in (F : Fence) (n : Nat) (h25 : F.fn 97) (hro : F.round = none) (a b c d e f g h i j : Int) (w : World) :
    CallsIn F n Try.prog 97 #[esi a b c d e f g h i j] w fun en w' => en = .returned (.func (.func 107) #[] #[.pointer (some ⟨w.heap.size, 0, none⟩)]) ∧ w' = w.alloc (esib a b c d e f g h i j) := by
  refine callsIn_of_wp Try.func97 rfl h25 ?_ hro
  simp only [Try.ntmps97, List.size_toArray, List.length_cons, List.length_nil, Nat.reduceAdd, Nat.reduceSub, Array.replicate_succ, Array.replicate_zero, List.push_toArray, List.append_toArray, List.nil_append, List.cons_append]
  gi_wp2
  go_ret
  exact ⟨rfl, rfl⟩

theorem esi_index (a b c d e f g h i j : Int) (k : Nat) (hk : k < 10) (w : World) :
    (Instr.index 57 (esi a b c d e f g h i j) (.int .i64 (k : Int))).run Try.prog w = .ok (.int .u8 (byteAt [a, b, c, d, e, f, g, h, i, j] k)) w := by
  have q0 : (Instr.index 57 (esi a b c d e f g h i j) (.int .i64 0)).run Try.prog w = .ok (.int .u8 a) w := by kernel_rfl
  have q1 : (Instr.index 57 (esi a b c d e f g h i j) (.int .i64 1)).run Try.prog w = .ok (.int .u8 b) w := by kernel_rfl
  have q2 : (Instr.index 57 (esi a b c d e f g h i j) (.int .i64 2)).run Try.prog w = .ok (.int .u8 c) w := by kernel_rfl
  have q3 : (Instr.index 57 (esi a b c d e f g h i j) (.int .i64 3)).run Try.prog w = .ok (.int .u8 d) w := by kernel_rfl
  have q4 : (Instr.index 57 (esi a b c d e f g h i j) (.int .i64 4)).run Try.prog w = .ok (.int .u8 e) w := by kernel_rfl
  have q5 : (Instr.index 57 (esi a b c d e f g h i j) (.int .i64 5)).run Try.prog w = .ok (.int .u8 f) w := by kernel_rfl
  have q6 : (Instr.index 57 (esi a b c d e f g h i j) (.int .i64 6)).run Try.prog w = .ok (.int .u8 g) w := by kernel_rfl
  have q7 : (Instr.index 57 (esi a b c d e f g h i j) (.int .i64 7)).run Try.prog w = .ok (.int .u8 h) w := by kernel_rfl
  have q8 : (Instr.index 57 (esi a b c d e f g h i j) (.int .i64 8)).run Try.prog w = .ok (.int .u8 i) w := by kernel_rfl
  have q9 : (Instr.index 57 (esi a b c d e f g h i j) (.int .i64 9)).run Try.prog w = .ok (.int .u8 j) w := by kernel_rfl
  have h10 : k = 0 ∨ k = 1 ∨ k = 2 ∨ k = 3 ∨ k = 4 ∨ k = 5 ∨ k = 6 ∨ k = 7 ∨ k = 8 ∨ k = 9 := by omega
  rcases h10 with rfl | rfl | rfl | rfl | rfl | rfl | rfl | rfl | rfl | rfl
  · exact q0
  · exact q1
  · exact q2
  · exact q3
  · exact q4
  · exact q5
  · exact q6
  · exact q7
  · exact q8
  · exact q9

set_option maxRecDepth 100000 in
set_option maxHeartbeats 2000000 in
theorem octets1_in (F : Fence) (n : Nat) (h30 : F.fn 107) (hro : F.round = none) (hn : 1 ≤ n) (l Bs : Nat) (Kp : World → World → Prop) (a b c d e f g h i j : Int) (J Jx : List (Fin 10) → World → Prop)
    (hY : ∀ pre x W, J pre W → pre.length < 10 → YieldAt F (n - 1) Try.prog l (oct [a, b, c, d, e, f, g, h, i, j] x) W fun e W' =>
      (e = .returned (.bool true) ∧ J (pre ++ [x]) W' ∧ Kp W W') ∨ (e = .returned (.bool false) ∧ Jx (pre ++ [x]) W'))
    (W : World) (hc0 : W.cell? ⟨Bs, 0, none⟩ = some (.int .u8 a)) (hc1 : W.cell? ⟨Bs, 1, none⟩ = some (.int .u8 b)) (hc2 : W.cell? ⟨Bs, 2, none⟩ = some (.int .u8 c)) (hc3 : W.cell? ⟨Bs, 3, none⟩ = some (.int .u8 d))
    (hc4 : W.cell? ⟨Bs, 4, none⟩ = some (.int .u8 e)) (hc5 : W.cell? ⟨Bs, 5, none⟩ = some (.int .u8 f)) (hc6 : W.cell? ⟨Bs, 6, none⟩ = some (.int .u8 g)) (hc7 : W.cell? ⟨Bs, 7, none⟩ = some (.int .u8 h))
    (hc8 : W.cell? ⟨Bs, 8, none⟩ = some (.int .u8 i)) (hc9 : W.cell? ⟨Bs, 9, none⟩ = some (.int .u8 j)) (h0 : J [] W) :
    CallsIn F n Try.prog 107 #[.func (.yield l) #[] #[], .pointer (some ⟨Bs, 0, none⟩)] W fun en W' => (∃ v, en = .returned v) ∧
      ((∃ ys, ys = first 10 ∧ J ys W') ∨ (∃ pre, (∃ k, k ≤ 10 ∧ pre = first k) ∧ Jx pre W')) := by
  have hix := esi_index a b c d e f g h i j
  refine callsIn_of_wp Try.func107 rfl h30 ?_ hro
  simp only [Try.ntmps107, List.size_toArray, List.length_cons, List.length_nil, Nat.reduceAdd, Nat.reduceSub, Array.replicate_succ, Array.replicate_zero, List.push_toArray, List.append_toArray, List.nil_append, List.cons_append]
  gi_wp2
  gi_loopw [6] (fun iv wr => ∃ k : Nat, k ≤ 10 ∧ iv = .int .i64 k ∧ J (first k) wr)
    (fun iv _ => 10 - (intOf iv).toNat)
  case atStart => exact ⟨0, Nat.zero_le _, rfl, h0⟩
  case round =>
    obtain ⟨k, hk, rfl, hJs⟩ := hrel
    by_cases hlt : k < 10
    · obtain ⟨fn, tmps, assign, body, hy, hR⟩ := hY _ ⟨k, hlt⟩ wr hJs (by rw [first_length _ hk]; exact hlt)
      dsimp only [oct] at hy
      have hx := hix k hlt
      clear hix
      gi_wp2
      refine hR.mono ?_
      rintro e W3 (⟨rfl, hJ3, hk3⟩ | ⟨rfl, hJx3⟩)
      · gi_wp2
        go_roundw
        case rel => exact ⟨k + 1, by omega, by simp, by rw [first_succ _ hlt]; exact hJ3⟩
        case measure => simp [intOf]; omega
      · gi_wp2
        refine bodyPost_ret (results_none rfl _ _ _) rfl ?_
        exact ⟨⟨_, rfl⟩, .inr ⟨_, ⟨k + 1, by omega, (first_succ _ hlt).symm⟩, hJx3⟩⟩
    · obtain rfl : k = 10 := by omega
      gi_wp2
      go_end0
      exact ⟨⟨_, rfl⟩, .inl ⟨_, rfl, hJs⟩⟩

/-- The iterator, for whatever the rounds keep. -/
theorem octets_stops (F : Fence) (n : Nat) (h30 : F.fn 107) (hro : F.round = none) (hn : 1 ≤ n) (Bs : Nat) (Kp : World → World → Prop) (a b c d e f g h i j : Int) (w : World) (hBs : Bs < w.heap.size)
    (hc0 : w.cell? ⟨Bs, 0, none⟩ = some (.int .u8 a)) (hc1 : w.cell? ⟨Bs, 1, none⟩ = some (.int .u8 b)) (hc2 : w.cell? ⟨Bs, 2, none⟩ = some (.int .u8 c)) (hc3 : w.cell? ⟨Bs, 3, none⟩ = some (.int .u8 d))
    (hc4 : w.cell? ⟨Bs, 4, none⟩ = some (.int .u8 e)) (hc5 : w.cell? ⟨Bs, 5, none⟩ = some (.int .u8 f)) (hc6 : w.cell? ⟨Bs, 6, none⟩ = some (.int .u8 g)) (hc7 : w.cell? ⟨Bs, 7, none⟩ = some (.int .u8 h))
    (hc8 : w.cell? ⟨Bs, 8, none⟩ = some (.int .u8 i)) (hc9 : w.cell? ⟨Bs, 9, none⟩ = some (.int .u8 j)) :
    SeqStopsK F n Try.prog 107 #[.pointer (some ⟨Bs, 0, none⟩)] (oct [a, b, c, d, e, f, g, h, i, j]) Kp (fun ys => ys = first 10) (fun pre => ∃ k, k ≤ 10 ∧ pre = first k) 10 w := fun l J Jx W hW _ _ hY h0 =>
  octets1_in F n h30 hro hn l Bs Kp a b c d e f g h i j J Jx hY W ((hW.cell (p := ⟨Bs, 0, none⟩) hBs).trans hc0) ((hW.cell (p := ⟨Bs, 1, none⟩) hBs).trans hc1) ((hW.cell (p := ⟨Bs, 2, none⟩) hBs).trans hc2)
    ((hW.cell (p := ⟨Bs, 3, none⟩) hBs).trans hc3) ((hW.cell (p := ⟨Bs, 4, none⟩) hBs).trans hc4) ((hW.cell (p := ⟨Bs, 5, none⟩) hBs).trans hc5) ((hW.cell (p := ⟨Bs, 6, none⟩) hBs).trans hc6)
    ((hW.cell (p := ⟨Bs, 7, none⟩) hBs).trans hc7) ((hW.cell (p := ⟨Bs, 8, none⟩) hBs).trans hc8) ((hW.cell (p := ⟨Bs, 9, none⟩) hBs).trans hc9) h0

end Go.Proofs.Ytbaikpfibojdnaa
