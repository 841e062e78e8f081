/- Routes read: the iterator over pieces. -/
import Derived.RangeFuncBox
import Derived.RangeFuncNested
import Derived.RangeFuncBound
import Derived.RangeFuncCalls
import Derived.RangeFuncLeaves
import Derived.Shelf.Abstract
import Derived.WalkKit
import Derived.OwnWalkIn
import Derived.TacticsInMore
import Derived.LoopNIn
import Derived.LoopIn
import Derived.Maps.AppendAt
import Derived.Test.YthhajknmokomjaaZNrG
namespace Go.Proofs.Ythhajknmokomjaa
open Go.RowKit Go.Shelf
set_option linter.unusedVariables false
set_option linter.unusedSimpArgs false

attribute [local go_sem] Oper.semAt_some

theorem pos_len (bs : List Int) : ∀ (n i : Nat), (pos bs n i).length ≤ n
  | 0, _ => Nat.le_refl _
  | n + 1, i => by
    rw [pos]
    split
    · simp
    · simp only [List.length_cons]
      have := pos_len bs n (i + cut (bs.drop i))
      omega

/-- A place at which a piece may begin. -/
abbrev At (bs : List Int) : Type := { i : Nat // i < bs.length }
/-- What a round is handed: the place, and the piece. -/
def pcE (b o cap : Nat) (bs : List Int) : At bs → Array Value := fun x => #[.int .i64 (x.1 : Int), .slice (some ⟨b, o + x.1, none⟩) (cut (bs.drop x.1)) (cap - x.1)]

theorem pieces_in (F : Fence) (n : Nat) (hf : F.fn 44) (hro : F.round = none) (v : Value) (A : Option Addr) (len cap : Nat) (hv : v = .slice A len cap) (w : World) :
    CallsIn F n Try.prog 44 #[v] w fun en w' => en = .returned (.func (.func 61) #[] #[.pointer (some ⟨w.heap.size, 0, none⟩)]) ∧ w' = w.alloc (.cells #[v] 34) := by
  subst hv
  refine callsIn_of_wp Try.func44 rfl hf ?_ hro
  simp only [Try.ntmps44, List.size_toArray, List.length_cons, List.length_nil, Nat.reduceAdd, Nat.reduceSub, Array.replicate_succ, Array.replicate_zero, List.push_toArray, List.append_toArray, List.nil_append, List.cons_append]
  gi_wp2
  go_ret
  exact ⟨rfl, rfl⟩

/-- What a round keeps: what lay below, and the iterator's own box. -/
def Keep2 (n₀ Bs : Nat) (W W' : World) : Prop := Below n₀ W W' ∧ W'.heap[Bs]? = W.heap[Bs]?
theorem Keep2.refl (n₀ Bs : Nat) (W : World) : Keep2 n₀ Bs W W := ⟨Below.refl _ _, rfl⟩
theorem Keep2.trans {n₀ Bs : Nat} {A B C : World} (h : Keep2 n₀ Bs A B) (k : Keep2 n₀ Bs B C) : Keep2 n₀ Bs A C := ⟨h.1.trans k.1, k.2.trans h.2⟩

set_option maxRecDepth 100000 in
set_option maxHeartbeats 2000000 in
theorem pieces1_in (F : Fence) (n : Nat) (hf : F.fn 61) (hro : F.round = none) (hn : 1 ≤ n) (l Bs n₀ : Nat) (b o cap : Nat) (bs : List Int) (hcap : bs.length ≤ cap) (hm : bs.length ≤ 1000000) (hmc : cap ≤ 9223372036854775807) (hb : b < n₀) (hby : ∀ v ∈ bs, 0 ≤ v ∧ v ≤ 255) (J Jx : List (At bs) → World → Prop)
    (hY : ∀ pre x W, J pre W → pre.length < bs.length → YieldAt F (n - 1) Try.prog l (pcE b o cap bs x) W fun e W' =>
      (e = .returned (.bool true) ∧ J (pre ++ [x]) W' ∧ Keep2 n₀ Bs W W') ∨ (e = .returned (.bool false) ∧ Jx (pre ++ [x]) W'))
    (W : World) (hc0 : W.cell? ⟨Bs, 0, none⟩ = some (.slice (some ⟨b, o, none⟩) bs.length cap)) (hsl : Sl W b o bs) (h0 : J [] W) :
    CallsIn F n Try.prog 61 #[.func (.yield l) #[] #[], .pointer (some ⟨Bs, 0, none⟩)] W fun en W' => (∃ v, en = .returned v) ∧
      ((∃ ys : List (At bs), ys.map (·.1) = pos bs bs.length 0 ∧ J ys W') ∨ (∃ pre : List (At bs), (pre.map (·.1) <+: pos bs bs.length 0) ∧ Jx pre W')) := by
  refine callsIn_of_wp Try.func61 rfl hf ?_ hro
  simp only [Try.ntmps61, List.size_toArray, List.length_cons, List.length_nil, Nat.reduceAdd, Nat.reduceSub, Array.replicate_succ, Array.replicate_zero, List.push_toArray, List.append_toArray, List.nil_append, List.cons_append]
  have hpl := pos_len bs bs.length 0
  have HSl := Lib.hid hsl
  clear hsl
  gi_wp2
  gi_loopw [3] (fun iv wr => ∃ (k : Nat) (pre : List (At bs)), k ≤ bs.length ∧ iv = .int .i64 k ∧ pre.map (·.1) ++ pos bs bs.length k = pos bs bs.length 0 ∧ J pre wr ∧ Keep2 n₀ Bs W wr)
    (fun iv _ => bs.length - (intOf iv).toNat)
  case atStart => exact ⟨0, [], Nat.zero_le _, rfl, rfl, h0, Keep2.refl _ _ _⟩
  case round =>
    obtain ⟨k, pre, hk, rfl, hpre, hJs, hnx⟩ := hrel
    have c0 : wr.cell? ⟨Bs, 0, none⟩ = some (.slice (some ⟨b, o, none⟩) bs.length cap) := (World.cell?_of_block (a := ⟨Bs, 0, none⟩) hnx.2).trans hc0
    by_cases hlt : k < bs.length
    · have hst := pos_step (bs := bs) (n := bs.length) hlt (by omega)
      have hplen : pre.length < bs.length := by
        have h1 := congrArg List.length hpre
        rw [hst] at h1
        simp at h1
        omega
      obtain ⟨fn, tmps, assign, body, hy, hR⟩ := hY _ ⟨k, hlt⟩ wr hJs hplen
      dsimp only [pcE] at hy
      have hcl := cut_le (bs.drop k)
      have hcp := cut_pos (b := bs.drop k) (by simp; omega)
      simp only [List.length_drop] at hcl
      have HPre := Lib.hid hpre
      have HSt := Lib.hid hst
      clear hpre hst
      by_cases h2 : bs.length - k < 2
      · have hcut : cut (bs.drop k) = bs.length - k := by unfold cut; rw [if_pos (by simpa using h2)]; simp
        have hk1 : k + 1 = bs.length := by omega
        rw [hcut] at hy hcl hcp
        have hnext : (pre ++ [(⟨k, hlt⟩ : At bs)]).map (·.1) ++ pos bs bs.length (k + (bs.length - k)) = pos bs bs.length 0 := by
          rw [← HPre.out, HSt.out, hcut]
          simp
        have HNext := Lib.hid hnext
        clear hnext
        gi_wp2
        refine hR.mono ?_
        rintro e W3 (⟨rfl, hJ3, hk3⟩ | ⟨rfl, hJx3⟩)
        · gi_wp2
          go_roundw
          case rel => exact ⟨k + (bs.length - k), pre ++ [⟨k, hlt⟩], by omega, by first | rfl | (congr 1; omega) | (simp; done), HNext.out, hJ3, hnx.trans hk3⟩
          case measure => simp [intOf]; omega
        · gi_wp2
          refine bodyPost_ret (results_none rfl _ _ _) rfl ?_
          exact ⟨⟨_, rfl⟩, .inr ⟨pre ++ [⟨k, hlt⟩], ⟨_, HNext.out⟩, hJx3⟩⟩
      · have hk1 : k + 1 < bs.length := by omega
        have hbd := hby bs[k + 1] (List.getElem_mem _)
        have hcell := HSl.out (k + 1) hk1
        have hcut : cut (bs.drop k) = min (bs.length - k) (2 + bs[k + 1].toNat) := by
          unfold cut
          rw [if_neg (by simpa using h2)]
          simp [hk1]
        obtain ⟨y, hy9⟩ : ∃ y, bs[k + 1] = y := ⟨_, rfl⟩
        rw [hy9] at hbd hcell hcut
        obtain ⟨hb0, hb1⟩ := hbd
        have hc1 : wr.cell? ⟨b, o + (k + 1), none⟩ = some (.int .u8 y) := (hnx.1.cell (p := ⟨b, o + (k + 1), none⟩) hb).trans hcell
        clear hcell hy9
        by_cases hle : (bs.length : Int) - (k : Int) ≤ 2 + y
        · have hcut' : cut (bs.drop k) = bs.length - k := by rw [hcut]; omega
          have hcut := hcut'
          rw [hcut] at hy hcl hcp
          have hnext : (pre ++ [(⟨k, hlt⟩ : At bs)]).map (·.1) ++ pos bs bs.length (k + (bs.length - k)) = pos bs bs.length 0 := by
            rw [← HPre.out, HSt.out, hcut]
            simp
          have HNext := Lib.hid hnext
          clear hnext
          gi_wp2
          refine hR.mono ?_
          rintro e W3 (⟨rfl, hJ3, hk3⟩ | ⟨rfl, hJx3⟩)
          · gi_wp2
            go_roundw
            case rel => exact ⟨k + (bs.length - k), pre ++ [⟨k, hlt⟩], by omega, by first | rfl | (congr 1; omega) | (simp; done), HNext.out, hJ3, hnx.trans hk3⟩
            case measure => simp [intOf]; omega
          · gi_wp2
            refine bodyPost_ret (results_none rfl _ _ _) rfl ?_
            exact ⟨⟨_, rfl⟩, .inr ⟨pre ++ [⟨k, hlt⟩], ⟨_, HNext.out⟩, hJx3⟩⟩
        · obtain ⟨m, rfl⟩ := Int.eq_ofNat_of_zero_le hb0
          have hcut' : cut (bs.drop k) = 2 + m := by rw [hcut]; simp; omega
          have hcut := hcut'
          rw [hcut] at hy hcl hcp
          have hle2 : 2 + (m : Int) < (bs.length : Int) - (k : Int) := by omega
          have hnext : (pre ++ [(⟨k, hlt⟩ : At bs)]).map (·.1) ++ pos bs bs.length (k + (2 + m)) = pos bs bs.length 0 := by
            rw [← HPre.out, HSt.out, hcut]
            simp
          have HNext := Lib.hid hnext
          clear hnext
          gi_wp2
          refine hR.mono ?_
          rintro e W3 (⟨rfl, hJ3, hk3⟩ | ⟨rfl, hJx3⟩)
          · gi_wp2
            go_roundw
            case rel => exact ⟨k + (2 + m), pre ++ [⟨k, hlt⟩], by omega, by first | rfl | (congr 1; omega) | (simp; done), HNext.out, hJ3, hnx.trans hk3⟩
            case measure => simp [intOf]; omega
          · gi_wp2
            refine bodyPost_ret (results_none rfl _ _ _) rfl ?_
            exact ⟨⟨_, rfl⟩, .inr ⟨pre ++ [⟨k, hlt⟩], ⟨_, HNext.out⟩, hJx3⟩⟩
    · obtain rfl : k = bs.length := by omega
      have hp0 : pre.map (·.1) = pos bs bs.length 0 := by rw [← hpre, pos_done (Nat.le_refl _), List.append_nil]
      gi_wp2
      go_end0
      exact ⟨⟨_, rfl⟩, .inl ⟨_, hp0, hJs⟩⟩

set_option maxRecDepth 100000 in
/-- No bytes: no round. -/
theorem pieces1_none (F : Fence) (n : Nat) (hf : F.fn 61) (hro : F.round = none) (l Bs : Nat) (A : Option Addr) (cap : Nat) (J : List (At []) → World → Prop) (W : World) (hc0 : W.cell? ⟨Bs, 0, none⟩ = some (.slice A 0 cap)) (h0 : J [] W) :
    CallsIn F n Try.prog 61 #[.func (.yield l) #[] #[], .pointer (some ⟨Bs, 0, none⟩)] W fun en W' => (∃ v, en = .returned v) ∧ J [] W' := by
  refine callsIn_of_wp Try.func61 rfl hf ?_ hro
  simp only [Try.ntmps61, List.size_toArray, List.length_cons, List.length_nil, Nat.reduceAdd, Nat.reduceSub, Array.replicate_succ, Array.replicate_zero, List.push_toArray, List.append_toArray, List.nil_append, List.cons_append]
  gi_wp2
  gi_loopw [3] (fun iv wr => iv = .int .i64 0 ∧ J [] wr ∧ wr.cell? ⟨Bs, 0, none⟩ = some (.slice A 0 cap)) (fun _ _ => 0)
  case atStart => exact ⟨rfl, h0, hc0⟩
  case round =>
    obtain ⟨rfl, hJs, hc⟩ := hrel
    gi_wp2
    go_end0
    exact ⟨⟨_, rfl⟩, hJs⟩

/-- The iterator over the pieces of some bytes. -/
theorem pieces_stops (F : Fence) (n : Nat) (hf : F.fn 61) (hro : F.round = none) (hn : 1 ≤ n) (Bs n₀ : Nat) (b o cap : Nat) (bs : List Int) (hcap : bs.length ≤ cap) (hm : bs.length ≤ 1000000) (hmc : cap ≤ 9223372036854775807) (hb : b < n₀) (hby : ∀ v ∈ bs, 0 ≤ v ∧ v ≤ 255) (w : World) (hn0 : n₀ ≤ w.heap.size) (hBs : Bs < w.heap.size)
    (hc0 : w.cell? ⟨Bs, 0, none⟩ = some (.slice (some ⟨b, o, none⟩) bs.length cap)) (hsl : Sl w b o bs) :
    SeqStopsK F n Try.prog 61 #[.pointer (some ⟨Bs, 0, none⟩)] (pcE b o cap bs) (Keep2 n₀ Bs) (fun ys => ys.map (·.1) = pos bs bs.length 0) (fun pre => pre.map (·.1) <+: pos bs bs.length 0) bs.length w := fun l J Jx W hW _ _ hY h0 =>
  pieces1_in F n hf hro hn l Bs n₀ b o cap bs hcap hm hmc hb hby J Jx hY W ((hW.cell (p := ⟨Bs, 0, none⟩) (by show Bs < _; omega)).trans hc0) (fun j hj => (hW.cell (p := ⟨b, o + j, none⟩) (by show b < _; omega)).trans (hsl j hj)) h0
theorem pieces_stops_none (F : Fence) (n : Nat) (hf : F.fn 61) (hro : F.round = none) (Bs n₀ : Nat) (A : Option Addr) (cap b o : Nat) (w : World) (hBs : Bs < w.heap.size) (hc0 : w.cell? ⟨Bs, 0, none⟩ = some (.slice A 0 cap)) :
    SeqStopsK F n Try.prog 61 #[.pointer (some ⟨Bs, 0, none⟩)] (pcE b o cap []) (Keep2 n₀ Bs) (fun ys => ys.map (·.1) = pos [] 0 0) (fun pre => pre.map (·.1) <+: pos [] 0 0) 0 w := fun l J Jx W hW _ _ hY h0 =>
  (pieces1_none F n hf hro l Bs A cap J W ((hW.cell (p := ⟨Bs, 0, none⟩) hBs).trans hc0) h0).mono fun e W' ⟨he, hj⟩ => ⟨he, .inl ⟨[], rfl, hj⟩⟩

end Go.Proofs.Ythhajknmokomjaa
