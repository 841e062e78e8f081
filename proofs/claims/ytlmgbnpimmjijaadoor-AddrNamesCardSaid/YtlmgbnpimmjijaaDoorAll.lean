/- slices.All over a slice of bytes that stands in memory. -/
import Derived.Test.YtlmgbnpimmjijaaDoorESIText
namespace Go.Proofs.YtlmgbnpimmjijaaDoor
open Go.RowKit Go.Shelf

attribute [local go_sem] Oper.semAt_some

theorem all_in (F : Fence) (n : Nat) (hf : F.fn 31) (hro : F.round = none) (g N c : Nat) (w : World) :
    CallsIn F n Tryd.prog 31 #[.slice (some ⟨g, 0, none⟩) N c] w fun en w' => en = .returned (.func (.func 42) #[] #[.pointer (some ⟨w.heap.size, 0, none⟩)]) ∧ w' = w.alloc (.cells #[.slice (some ⟨g, 0, none⟩) N c] 75) := by
  refine callsIn_of_wp Tryd.func31 rfl hf ?_ hro
  simp only [Tryd.ntmps31, List.size_toArray, List.length_cons, List.length_nil, Nat.reduceAdd, Nat.reduceSub, Array.replicate_succ, Array.replicate_zero, List.push_toArray, List.append_toArray, List.nil_append, List.cons_append]
  gi_wp2
  go_ret
  exact ⟨rfl, rfl⟩

/-- The first k of N positions. -/
def firstN (N k : Nat) : List (Fin N) := (List.finRange N).take k
theorem firstN_succ (N k : Nat) (h : k < N) : firstN N (k + 1) = firstN N k ++ [⟨k, h⟩] := by
  unfold firstN
  rw [List.take_succ_eq_append_getElem (by simpa using h)]
  simp
theorem firstN_length (N k : Nat) (h : k ≤ N) : (firstN N k).length = k := by simp [firstN]; omega
theorem firstN_zero (N : Nat) : firstN N 0 = [] := by simp [firstN]
theorem firstN_all (N : Nat) : firstN N N = List.finRange N := by unfold firstN; exact List.take_of_length_le (by simp)

set_option maxRecDepth 100000 in
set_option maxHeartbeats 2000000 in
theorem all1_in (F : Fence) (n : Nat) (h30 : F.fn 42) (hro : F.round = none) (hn : 1 ≤ n) (l B Bs g N c : Nat) (hN : N ≤ 16) (hg : g < B) (zs : List Int) (J Jx : List (Fin N) → World → Prop)
    (hY : ∀ pre x W, J pre W → pre.length < N → YieldAt F (n - 1) Tryd.prog l (octN N zs x) W fun e W' =>
      (e = .returned (.bool true) ∧ J (pre ++ [x]) W' ∧ Below B W W') ∨ (e = .returned (.bool false) ∧ Jx (pre ++ [x]) W'))
    (W : World) (hs : W.cell? ⟨Bs, 0, none⟩ = some (.slice (some ⟨g, 0, none⟩) N c)) (hc : ∀ k, k < N → W.cell? ⟨g, k, none⟩ = some (.int .u8 (byteAt zs k))) (h0 : J [] W) :
    CallsIn F n Tryd.prog 42 #[.func (.yield l) #[] #[], .pointer (some ⟨Bs, 0, none⟩)] W fun en W' => (∃ v, en = .returned v) ∧
      ((∃ ys, ys = List.finRange N ∧ J ys W') ∨ (∃ pre, True ∧ Jx pre W')) := by
  have HC := Lib.hid hc
  clear hc
  refine callsIn_of_wp Tryd.func42 rfl h30 ?_ hro
  simp only [Tryd.ntmps42, List.size_toArray, List.length_cons, List.length_nil, Nat.reduceAdd, Nat.reduceSub, Array.replicate_succ, Array.replicate_zero, List.push_toArray, List.append_toArray, List.nil_append, List.cons_append]
  gi_wp2_with fail
  gi_loopw [7] (fun iv wr => ∃ k : Nat, k ≤ N ∧ iv = .int .i64 k ∧ J (firstN N k) wr ∧ Below B W wr)
    (fun iv _ => N - (intOf iv).toNat)
  case atStart => exact ⟨0, Nat.zero_le _, rfl, by rw [firstN_zero]; exact h0, Below.refl _ _⟩
  case round =>
    obtain ⟨k, hk, rfl, hJs, hbs⟩ := hrel
    by_cases hlt : k < N
    · obtain ⟨fn, tmps, assign, body, hy, hR⟩ := hY _ ⟨k, hlt⟩ wr hJs (by rw [firstN_length _ _ hk]; exact hlt)
      dsimp only [octN] at hy
      have hx := (hbs.cell (p := ⟨g, k, none⟩) hg).trans (HC.out k hlt)
      gi_wp2_with fail
      refine hR.mono ?_
      rintro e W3 (⟨rfl, hJ3, hk3⟩ | ⟨rfl, hJx3⟩)
      · gi_wp2_with fail
        go_roundw
        case rel => exact ⟨k + 1, by omega, by simp, by rw [firstN_succ _ _ hlt]; exact hJ3, hbs.trans hk3⟩
        case measure => simp [intOf]; omega
      · gi_wp2_with fail
        refine bodyPost_ret (results_none rfl _ _ _) rfl ?_
        exact ⟨⟨_, rfl⟩, .inr ⟨_, trivial, hJx3⟩⟩
    · obtain rfl : k = N := by omega
      gi_wp2_with fail
      go_end0
      exact ⟨⟨_, rfl⟩, .inl ⟨_, firstN_all _, hJs⟩⟩

/-- The iterator, as colons wants it. -/
theorem all_seq (B Bs g N c : Nat) (hN : N ≤ 16) (hg : g < B) (zs : List Int) (w : World) (hBs : Bs < w.heap.size) (hgs : g < w.heap.size) (hs : w.cell? ⟨Bs, 0, none⟩ = some (.slice (some ⟨g, 0, none⟩) N c))
    (hc : ∀ k, k < N → w.cell? ⟨g, k, none⟩ = some (.int .u8 (byteAt zs k))) :
    SeqStopsK Fence.wide 2 Tryd.prog 42 #[.pointer (some ⟨Bs, 0, none⟩)] (octN N zs) (Below B) (fun ys => ys = List.finRange N) (fun _ => True) N w := fun l J Jx W hW _ _ hY h0 =>
  all1_in Fence.wide 2 trivial rfl (by omega) l B Bs g N c hN hg zs J Jx hY W ((hW.cell (p := ⟨Bs, 0, none⟩) hBs).trans hs) (fun k hk => (hW.cell (p := ⟨g, k, none⟩) hgs).trans (hc k hk)) h0

end Go.Proofs.YtlmgbnpimmjijaaDoor
