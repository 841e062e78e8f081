/- WireWrites: the document's own writer: numbers. -/
import Derived.Test.YtbaikpfibojdnaaWwA
namespace Go.Proofs.Ytbaikpfibojdnaa
open Go.RowKit
set_option linter.unusedVariables false
set_option maxRecDepth 100000

theorem news_block {w : World} {t : TypeId} {x : Value} : ∀ j u, [x][j]? = some u → (w.alloc (.cells #[x] t)).cell? ((⟨w.heap.size, 0, none⟩ : Addr).add j) = some u := by
  intro j u hu
  obtain ⟨hj, rfl⟩ := List.getElem?_eq_some_iff.1 hu
  simp only [List.length_singleton] at hj
  obtain rfl : j = 0 := by omega
  simp [Addr.add]

theorem Next.drewN {w w' : World} {l l' : List Nat} (h : Next w l w' l') (n : Nat) : Next w l (w'.drewN n) l' := ⟨⟨h.1.os, h.1.tape, h.1.output, h.1.size, h.1.block⟩, h.2⟩
theorem RwL.drewN {w : World} {l : List Nat} {o : Nat} {s : WS} (h : RwL w l o s) (n : Nat) : RwL (w.drewN n) l o s := h.below ⟨rfl, rfl, rfl, Nat.le_refl _, fun _ _ => rfl⟩

/-- One byte appended: what stands behind it. -/
theorem Rw.one {w w1 : World} {o : Nat} {v m : Value} {s : WS} {x : Int} {g cap : Nat} (H : Rw w o v m s) (hl : s.out.length + 1 ≤ s.lim) (hx : 0 ≤ x ∧ x ≤ 255)
    (hg : (w.alloc (.cells #[.int .u8 x] 5)).drew.grownBy w1 v.ownBlock) (hor : v.ownBlock = some g ∨ g = w.heap.size + 1)
    (ho : w1.ownsRow 0 5 1 (.slice (some ⟨g, 0, none⟩) (s.out.length + 1) cap) (s.out.length + 1) (u8s s.out ++ [.int .u8 x])) :
    w1.cell? ⟨o, 0, none⟩ = some v ∧ w1.frozen? ⟨o, 0, none⟩ = false ∧
    Hid (∃ l', RwL (w1.setCell ⟨o, 0, none⟩ (.slice (some ⟨g, 0, none⟩) (s.out.length + 1) cap)) l' o { s with out := s.out ++ [x] } ∧ Next w (rwl o v m) (w1.setCell ⟨o, 0, none⟩ (.slice (some ⟨g, 0, none⟩) (s.out.length + 1) cap)) l') := by
  have hb0 : Below w.heap.size w (w.alloc (.cells #[.int .u8 x] 5)).drew := ⟨rfl, rfl, rfl, by simp, fun i hi => Below.heap_alloc w _ i hi⟩
  have H1 := H.below hb0
  have h1 : v.ownBlock ≠ some o := ow_has H1.out H1.blk (by decide)
  have hb1 : Has w1 o 49 #[v, .int .i64 s.lim, m] := H1.blk.grown hg (by intro h; exact h1 h.symm)
  obtain ⟨q1, q2⟩ := H1.more (v' := .slice (some ⟨g, 0, none⟩) (s.out.length + 1) cap) (xs := [x]) (by simpa using hl) (by simpa using hx) hg (by simpa using ho)
  refine ⟨hb1.cell 0, hb1.free 0, Lib.hid ⟨_, ⟨_, _, rfl, q1⟩, ?_, ?_⟩⟩
  · exact (turn_below hb0 (rwl o v m)).trans q2
  · exact rwl_more (w1 := w1) (hor.imp (fun h => by rw [h]; rfl) (fun h => ⟨g, rfl, by omega⟩))

/-- One byte appended, as a step of a region. -/
theorem Rw.step {wr : World} {o : Nat} {A : Option Addr} {c1 : Nat} {m : Value} {s : WS} {b : Int} (H : Rw wr o (.slice A s.out.length c1) m s) (hl : s.out.length + 1 ≤ s.lim) (hx : 0 ≤ b ∧ b ≤ 255)
    {ops : Array Oper} {oo : Oper} {a : Act} {K : Act → World → Prop} {Q : Exit → Act → World → Prop} {E : Prop} (hgd : oo.guard = none) (x y : Operand)
    (ho : oo.op = .call { callee := .builtin .append, args := #[x, y], argTypes := #[33, 33] })
    (hs : a.eval x = .slice A s.out.length c1) (hy : a.eval y = .slice (some ⟨wr.heap.size, 0, none⟩) 1 1)
    (h : ∀ g cap w1, w1.cell? ⟨o, 0, none⟩ = some (.slice A s.out.length c1) → w1.frozen? ⟨o, 0, none⟩ = false →
      Hid (∃ l', RwL (w1.setCell ⟨o, 0, none⟩ (.slice (some ⟨g, 0, none⟩) (s.out.length + 1) cap)) l' o { s with out := s.out ++ [b] } ∧ Next wr (rwl o (.slice A s.out.length c1) m) (w1.setCell ⟨o, 0, none⟩ (.slice (some ⟨g, 0, none⟩) (s.out.length + 1) cap)) l') →
      K (a.put oo.dst (.slice (some ⟨g, 0, none⟩) (s.out.length + 1) cap)) w1) :
    if Region.wanted oo (yielded ops a.tmps) = true then Oper.wp Try.prog oo a (wr.alloc (.cells #[.int .u8 b] 5)).drew K Q else E := by
  obtain ⟨i0, hi, hz0, hz1, hz2⟩ := info_parts info_u8
  have htop := H.top
  have hb0 : Below wr.heap.size wr (wr.alloc (.cells #[.int .u8 b] 5)).drew := ⟨rfl, rfl, rfl, by simp, fun i hi => Below.heap_alloc wr _ i hi⟩
  refine step_append_lies _ hgd x y 33 ho 0 5 i0 (.int .u8 0) 1 1 Try.underlying33 hi hz0 hz1 hz2 rfl (by decide) (.slice A s.out.length c1) s.out.length (u8s s.out) hs (ow_below H.out hb0) ⟨wr.heap.size, 0, none⟩ 1 1 [.int .u8 b] hy rfl news_block (by simp [Value.oneCell']) (by omega) (by unfold maxLen; omega) (by omega) (Nat.zero_le _) (wr.heap.size + 1) (by simp) ?_
  intro g cap w1 hown hgrow hor _
  obtain ⟨k0, k1, HZ⟩ := H.one hl hx hgrow hor hown
  exact h g cap w1 k0 k1 HZ

/-- The numbers that fit: what is left behind the tests. -/
theorem WS.put_fit {s : WS} {n : Int} {k : Nat} (h1 : ¬ (256 : Int) ^ k ≤ n) (h2 : ¬ s.lim - s.out.length < k) : s.put n k = (0, { s with out := s.out ++ be n k }) := by
  unfold WS.put; rw [if_neg h1, if_neg h2]

set_option maxHeartbeats 2000000 in
theorem pput (o : Nat) (l : List Nat) (s : WS) (w : World) (H : RwL w l o s) (n : Int) (h0 : 0 ≤ n) (h1 : n < 18446744073709551616) (k : Nat) (hk1 : 1 ≤ k) (hk : k ≤ 8) :
    Calls Try.prog 16 #[.pointer (some ⟨o, 0, none⟩), .int .u64 n, .int .i64 k] w fun e w' => e = .returned (.int .i64 (s.put n k).1) ∧ ∃ l', RwL w' l' o (s.put n k).2 ∧ Next w l w' l' := by
  have hp := pow_shift n k h0
  by_cases hr : (256 : Int) ^ k ≤ n
  · have e : Hid (s.put n k = (2, s)) := Lib.hid (by unfold WS.put; rw [if_pos hr])
    have hq : (n / 2 ^ (8 * k) != 0) = true := by rw [hp]; simpa using hr
    have hlt : (k : Int) < 8 := by
      by_cases h8 : k = 8
      · subst h8; omega
      · omega
    have HH := Lib.hid H
    clear hp hr H
    go_enter Try.func16, Try.ntmps16
    go_wp2_with fail
    go_ret
    rw [e.out]
    exact ⟨rfl, l, HH.out, Next.refl w l⟩
  · have hq : (n / 2 ^ (8 * k) != 0) = false := by rw [hp]; simpa using hr
    have HR := Lib.hid hr
    clear hp hr
    obtain ⟨v, m, rfl, hw⟩ := H
    obtain ⟨A, c, hv, hnc, hcm, hnil, hsome⟩ := ow_form hw.out
    subst hv
    have c0 := hw.c0
    have c1 := hw.c1
    have hroom := hw.room
    have htop := hw.top
    have hsub : IntKind.i64.wrap ((s.lim : Int) - (s.out.length : Int)) = (s.lim : Int) - (s.out.length : Int) := IntWalk.i64_in _ (by omega)
    have HW := Lib.hid hw
    clear hw hnc hcm hnil hsome
    by_cases hf : s.lim - s.out.length < k
    · have e : Hid (s.put n k = (7, s)) := Lib.hid (by unfold WS.put; rw [if_neg HR.out, if_pos hf])
      have hgt : decide ((s.lim : Int) - (s.out.length : Int) < (k : Int)) = true := by simp; omega
      clear hf
      have h8 : (k : Int) < 8 ∨ ¬ (k : Int) < 8 := by omega
      rcases h8 with h8 | h8
      all_goals
        go_enter Try.func16, Try.ntmps16
        go_wp2_with fail
        go_quiet (fail)
        go_wp2_with fail
        go_ret
        rw [e.out]
        exact ⟨rfl, _, RwL.drewN ⟨_, _, rfl, HW.out⟩ _, (Next.refl w _).drewN _⟩
    · have e : Hid (s.put n k = (0, { s with out := s.out ++ be n k })) := Lib.hid (WS.put_fit HR.out hf)
      have hgt : decide ((s.lim : Int) - (s.out.length : Int) < (k : Int)) = false := by simp; omega
      have HF : Hid (s.out.length + k ≤ s.lim) := Lib.hid (by omega)
      clear hf
      obtain ⟨i0, hi, hz0, hz1, hz2⟩ := info_parts info_u8
      have hk0 : 1 ≤ (k : Int) := by omega
      have hk9 : (k : Int) ≤ 8 := by omega
      have h8 : (k : Int) < 8 ∨ ¬ (k : Int) < 8 := by omega
      rcases h8 with h8 | h8
      all_goals
        go_enter Try.func16, Try.ntmps16
        go_wp2_with fail
        go_quiet (fail)
        go_wp2_with fail
        go_loopw [7] (fun i wr => ∃ j : Nat, j ≤ k ∧ i = .int .i64 ((k : Int) - 1 - (j : Int)) ∧ ∃ l', RwL wr l' o { s with out := s.out ++ (be n k).take j } ∧ Next w (rwl o (.slice A s.out.length c) m) wr l') (fun i _ => (intOf i + 1).toNat)
        case atStart => exact ⟨0, Nat.zero_le _, by go_num, _, by simpa using RwL.drewN ⟨_, _, rfl, HW.out⟩ _, (Next.refl w _).drewN _⟩
        case round =>
          obtain ⟨j, hj, rfl, l', hrw, hnx⟩ := hrel
          clear c0 c1
          by_cases hlt : j < k
          · have hstep := be_take_succ n k j hlt
            obtain ⟨v', m', rfl, hw'⟩ := hrw
            obtain ⟨s1, hs1⟩ : ∃ s1 : WS, ({ s with out := s.out ++ (be n k).take j } : WS) = s1 := ⟨_, rfl⟩
            have hs2 : ({ s with out := s.out ++ (be n k).take (j + 1) } : WS) = { s1 with out := s1.out ++ [n / 256 ^ (k - 1 - j) % 256] } := by
              rw [← hs1, hstep]; simp
            have hroom2 : s1.out.length + 1 ≤ s1.lim := by
              have := HF.out
              rw [← hs1]; simp [be_length]; omega
            rw [hs1] at hw'
            have HS2 := Lib.hid hs2
            clear hs1 hs2 hstep
            obtain ⟨A1, c1, hv1, hnc1, hcm1, hnil1, hsome1⟩ := ow_form hw'.out
            subst hv1
            have d0 := hw'.c0
            have htop1 := hw'.top
            have hlo := hw'.blk.lt
            have HW1 := Lib.hid hw'
            have HN1 := Lib.hid hnx
            have e1 : ((k : Int) - 1 - (j : Int)).toNat = k - 1 - j := by omega
            have e2 : (0 : Int) ≤ (k : Int) - 1 - (j : Int) := by omega
            have e3 : IntKind.i64.wrap (8 * ((k : Int) - 1 - (j : Int))) = 8 * ((k : Int) - 1 - (j : Int)) := IntWalk.i64_in _ (by omega)
            have e4 : (0 : Int) ≤ 8 * ((k : Int) - 1 - (j : Int)) := by omega
            have e5 : (8 * ((k : Int) - 1 - (j : Int))).toNat = 8 * (k - 1 - j) := by omega
            have HB : Hid (∀ x : Value, Below wr.heap.size wr (wr.alloc (.cells #[x] 5)).drew) := Lib.hid (fun x => ⟨rfl, rfl, rfl, by simp, fun i hi => Below.heap_alloc wr _ i hi⟩)
            obtain ⟨b, hb⟩ : ∃ b, IntKind.u8.wrap (n / 2 ^ (8 * (k - 1 - j))) = b := ⟨_, rfl⟩
            have hb2 : n / 256 ^ (k - 1 - j) % 256 = b := by rw [← hb, pow_eight]; rfl
            have HX : Hid (0 ≤ b ∧ b ≤ 255) := Lib.hid (by omega)
            rw [hb2] at HS2
            clear hb2
            clear hnc1 hcm1 hnil1 hsome1 hw' hnx
            go_wp2_with fail
            go_region_law (refine HW1.out.step hroom2 HX.out rfl (.tmp 39) (.tmp 45) rfl rfl rfl ?_; intro g cap w1 k0 k1 HZ)
            all_goals
              go_wp2_with fail
              go_roundw
              case rel =>
                obtain ⟨l2, q1, q2⟩ := HZ.out
                exact ⟨j + 1, by omega, by go_num, l2, by rw [HS2.out]; exact q1, HN1.out.trans q2⟩
              case measure => simp [intOf]; omega
          · have hjk : j = k := by omega
            subst hjk
            rw [List.take_of_length_le (by simp [be_length])] at hrw
            have HR2 := Lib.hid hrw
            have HN2 := Lib.hid hnx
            have ez : ((j : Int) - 1 - (j : Int)) = -1 := by omega
            clear hrw hnx
            go_wp2_with fail
            go_ret
            rw [e.out]
            exact ⟨rfl, _, HR2.out, HN2.out⟩

end Go.Proofs.Ytbaikpfibojdnaa
