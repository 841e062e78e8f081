/- The contract of numbers[api.MAC]. -/
import Derived.Test.YtlmgbnpimmjijaaDoorNumA
namespace Go.Proofs.YtlmgbnpimmjijaaDoor
open Go.RowKit

theorem infoMAC : (Tryd.prog.info? 29).map (fun i => (i.zero, i.size, i.bytes)) = some (some (.int .u64 0), 1, 8) := by kernel_rfl

set_option maxHeartbeats 2000000 in
set_option maxRecDepth 100000 in
theorem numbersMAC_b (l : List UInt8) (hs : l.length ≤ 200) (m : Int) (w : World) (hm : w.cell? ⟨3, 0, none⟩ = some (.int .i64 m)) :
    Calls Tryd.prog 32 #[.string ⟨l.toArray⟩, .string ⟨#[58]⟩, .int .i64 6, .agg #[.int .i64 16, .int .i64 2, .int .i64 2, .bool true, .int .i64 255]] w
      (NumsSaid 29 .u64 w (nums hexN [58] 6 [] l true)) := by
  obtain ⟨i0, hi, hz0, hz1, hz2⟩ := info_parts infoMAC
  obtain ⟨R, hR⟩ : ∃ R, R = nums hexN [58] 6 [] l true := ⟨_, rfl⟩
  rw [← hR]
  have HR := Lib.hid hR
  clear hR
  go_enter Tryd.func32, Tryd.ntmps32
  go_wp2
  go_step3
  go_wp2
  go_step3
  go_wp2
  go_loopg [0, 10, 11] 6 (fun g s0 s10 s11 wx => ∃ (xs : List Int) (rest : List UInt8) (more : Bool), xs.length + g = 6 ∧ s0 = .string ⟨rest.toArray⟩ ∧ s11 = .bool more ∧ Hid (nums hexN [58] g xs rest more = R) ∧ rest.length ≤ 200 ∧
    wx.ownsRow (w.heap.size + 1) 29 1 s10 xs.length (xs.map (Value.int .u64)) ∧ Below (w.heap.size + 1) (w.alloc (.cells #[.int .i64 16, .int .i64 2, .int .i64 2, .bool true, .int .i64 255] 63)) wx)
  case atStart => exact ⟨[], l, true, rfl, rfl, rfl, Lib.hid HR.out.symm, hs, World.ownsRow_nil _ _ _ _, Below.refl _ _⟩
  case round =>
    obtain ⟨xs, rest, more, hg, rfl, rfl, HI, hrl, hown, hb⟩ := hrel
    obtain ⟨ao, cap, rfl⟩ : ∃ ao cap, u10 = .slice ao xs.length cap := by
      rcases hown.2 with ⟨hv, h0⟩ | ⟨g, cap, cur, hv, _⟩
      · exact ⟨none, 0, by rw [hv, h0]⟩
      · exact ⟨_, _, hv⟩
    have hB0 : Below w.heap.size w wr := ((Below.refl _ w).alloc (Nat.le_refl _) _).trans (hb.mono (by omega))
    have hm3 := World.block_lt_of_cell? w _ hm
    have hmr : wr.cell? ⟨3, 0, none⟩ = some (.int .i64 m) := (hB0.cell (p := ⟨3, 0, none⟩) hm3).trans hm
    have n0 : wr.cell? ⟨w.heap.size, 0, none⟩ = some (.int .i64 16) := (hb.cell (p := ⟨w.heap.size, 0, none⟩) (by simp)).trans (by simp)
    have n1 : wr.cell? ⟨w.heap.size, 1, none⟩ = some (.int .i64 2) := (hb.cell (p := ⟨w.heap.size, 1, none⟩) (by simp)).trans (by simp)
    have n2 : wr.cell? ⟨w.heap.size, 2, none⟩ = some (.int .i64 2) := (hb.cell (p := ⟨w.heap.size, 2, none⟩) (by simp)).trans (by simp)
    have n3 : wr.cell? ⟨w.heap.size, 3, none⟩ = some (.bool true) := (hb.cell (p := ⟨w.heap.size, 3, none⟩) (by simp)).trans (by simp)
    have n4 : wr.cell? ⟨w.heap.size, 4, none⟩ = some (.int .i64 255) := (hb.cell (p := ⟨w.heap.size, 4, none⟩) (by simp)).trans (by simp)
    have X : Hid (wr.ownsRow (w.heap.size + 1) 29 1 (.slice ao xs.length cap) xs.length (xs.map (Value.int .u64)) ∧ Below w.heap.size w wr ∧ Below (w.heap.size + 1) (w.alloc (.cells #[.int .i64 16, .int .i64 2, .int .i64 2, .bool true, .int .i64 255] 63)) wr) := ⟨hown, hB0, hb⟩
    clear hown hB0 hb hm hm3
    cases more with
    | false =>
      cases gk with
      | zero =>
        have hx : (xs.length == 6) = true := by simp; omega
        have hx2 : ((xs.length : Int) == 6) = true := by simp; omega
        go_wp2_with fail
        try rw [Exit.noGoto_ret]
        go_ret2
        have h := HI.out
        rw [nums_stop, if_pos rfl] at h
        exact ⟨_, by rw [← h]; rfl, X.out.2.1, fun l' e => by rw [← h] at e; cases e; exact X.out.1⟩
      | succ k =>
        have hx2 : ((xs.length : Int) == 6) = false := by simp; omega
        go_wp2_with fail
        try rw [Exit.noGoto_ret]
        go_ret2
        have h := HI.out
        rw [nums_stop, if_neg (by omega)] at h
        exact ⟨_, by rw [← h]; rfl, X.out.2.1, fun l' e => by rw [← h] at e; cases e⟩
    | true =>
      cases gk with
      | zero =>
        have hx2 : decide ((xs.length : Int) < 6) = false := by simp; omega
        have hx3 : ¬ ((xs.length : Int) < 6) := by omega
        go_wp2_with fail
        try rw [Exit.noGoto_ret]
        go_ret2
        have h := HI.out
        rw [nums_full] at h
        exact ⟨_, by rw [← h]; rfl, X.out.2.1, fun l' e => by rw [← h] at e; cases e⟩
      | succ k =>
        have hx3 : (xs.length : Int) < 6 := by omega
        go_wp2_with fail
        obtain ⟨p, r2, mo, hc⟩ : ∃ p r2 mo, Lib.cut rest [58] = (p, r2, mo) := ⟨_, _, _, rfl⟩
        obtain ⟨hpl, hrl2⟩ := cut_length hc
        have HC := Lib.hid hc
        clear hc
        refine (cut_b rest [58] p r2 mo HC.out hrl m _ hmr).mono ?_
        rintro e w' ⟨rfl, nq, rfl⟩
        have hpl2 : p.length ≤ 200 := by omega
        have hrl3 : r2.length ≤ 200 := by omega
        clear hpl hrl2
        have XB : Hid (Below w.heap.size w (wr.drewN nq)) := Lib.hid ⟨X.out.2.1.os, X.out.2.1.tape, X.out.2.1.output, X.out.2.1.size, X.out.2.1.block⟩
        have XO : Hid ((wr.drewN nq).ownsRow (w.heap.size + 1) 29 1 (.slice ao xs.length cap) xs.length (xs.map (Value.int .u64))) := X.out.1
        have XC : Hid (Below (w.heap.size + 1) (w.alloc (.cells #[.int .i64 16, .int .i64 2, .int .i64 2, .bool true, .int .i64 255] 63)) (wr.drewN nq)) := Lib.hid ⟨X.out.2.2.os, X.out.2.2.tape, X.out.2.2.output, X.out.2.2.size, X.out.2.2.block⟩
        have hx2 : ((xs.length : Int) == 6) = false := by simp; omega
        have HN : ∀ v, partNum hexN (Lib.cut rest [58]).1 = v → partNum hexN p = v := fun v h => by rw [HC.out] at h; exact h
        have HBAD : Hid (partNum hexN p = none → R = none) := Lib.hid (fun h => by rw [← HI.out]; exact nums_bad (by rw [HC.out]; exact h))
        have HGOOD : Hid (∀ v, partNum hexN p = some v → nums hexN [58] k (xs ++ [v]) r2 mo = R) := Lib.hid (fun v h => by rw [← HI.out, nums_good (v := v) (by rw [HC.out]; exact h), HC.out])
        clear X HN
        by_cases h1 : (p.length : Int) < 2
        · have RN : Hid (R = none) := Lib.hid (HBAD.out (part_short h1))
          go_wp2_with fail
          all_goals (try rw [Exit.noGoto_ret])
          all_goals go_ret2
          all_goals exact ⟨_, by rw [RN.out]; rfl, XB.out, fun l' e => by rw [RN.out] at e; cases e⟩
        by_cases h2 : (2 : Int) < p.length
        · have h1' : (2 : Int) ≤ p.length := by omega
          have RN : Hid (R = none) := Lib.hid (HBAD.out (part_long h2))
          clear h1
          go_wp2_with fail
          all_goals (try rw [Exit.noGoto_ret])
          all_goals go_ret2
          all_goals exact ⟨_, by rw [RN.out]; rfl, XB.out, fun l' e => by rw [RN.out] at e; cases e⟩
        have h1' : (2 : Int) ≤ p.length := by omega
        have h2' : (p.length : Int) ≤ 2 := by omega
        clear h1 h2
        · have HPN := Lib.hid (part_rest (n := hexN) h1' h2' (fun h => by cases h.1))
          go_wp2_with fail
          go_loopg [13, 59] p.length (fun g2 s13 s59 wy => ∃ (q : Nat) (S : Int), q + g2 = p.length ∧ s59 = .int .i64 q ∧ s13 = .int .i64 S ∧ 0 ≤ S ∧ S ≤ 159999 ∧ Hid (S < 16 ^ q) ∧ Hid (sumTo 16 (p.drop q) S = sumTo 16 p 0) ∧ wr.drewN nq = wy)
          case atStart => exact ⟨0, 0, by omega, rfl, rfl, by omega, by omega, Lib.hid (by decide), Lib.hid rfl, rfl⟩
          case round =>
            obtain ⟨q, S, hq, rfl, rfl, hS0, hS1, HS, HSum, rfl⟩ := hrel
            cases gk with
            | zero =>
              have hq1 : ¬ ((q : Int) < (p.length : Int)) := by omega
              have hsum : sumTo 16 p 0 = some S := by rw [← HSum.out, List.drop_eq_nil_of_le (by omega)]; rfl
              have HPS : Hid (partNum hexN p = if 255 < S then none else some S) := Lib.hid (by rw [HPN.out]; show (match sumTo 16 p 0 with | none => none | some v => if (255 : Int) < v then none else some v) = _; rw [hsum])
              clear hsum
              by_cases hl : 255 < S
              · have RN : Hid (R = none) := Lib.hid (HBAD.out (by rw [HPS.out, if_pos hl]))
                go_wp2_with fail
                all_goals (try rw [Exit.noGoto_ret])
                all_goals go_ret2
                all_goals exact ⟨_, by rw [RN.out]; rfl, XB.out, fun l' e => by rw [RN.out] at e; cases e⟩
              · have hl2 : S ≤ 255 := by omega
                have HV : Hid (partNum hexN p = some S) := Lib.hid (by rw [HPS.out, if_neg hl])
                clear hl
                have hxl : xs.length + 1 ≤ 6 := by omega
                have hsz : w.heap.size ≤ wr.heap.size := XB.out.size
                go_wp2_with (at_builtin; refine wpList_append_own _ rfl _ _ 76 rfl (w.heap.size + 1) 29 i0 (.int .u64 0) 1 8 Tryd.underlying76 hi hz0 hz1 hz2 rfl (by decide) _ _ _ rfl (XO.out.alloc _) ⟨wr.heap.size, 0, none⟩ 1 1 [.int .u64 S] rfl rfl (new_one _ _ _) (one_cell _ _) (by unfold maxLen; omega) (by omega) (by show w.heap.size + 1 ≤ (wr.heap.push _).size; simp; omega) ?_; intro v' w1 hown' hgrow _)
                go_roundg k
                case measure => omega
                case rel => exact ⟨xs ++ [S], r2, mo, by simp; omega, rfl, rfl, Lib.hid (HGOOD.out S HV.out), hrl3, by simpa using hown', below_app XC.out hgrow XO.out (by have := XC.out.size; simp at this; show _ ≤ wr.heap.size; omega) (by omega)⟩
            | succ g2 =>
              have hq0 : (0 : Int) ≤ (q : Int) := by omega
              have hq1 : (q : Int) < (p.length : Int) := by omega
              have hq2 : q < p.length := by omega
              by_cases hd : 16 ≤ dg (p[q].toNat : Int)
              · have RN : Hid (R = none) := Lib.hid (HBAD.out (by rw [HPN.out]; show (match sumTo 16 p 0 with | none => none | some v => if (255 : Int) < v then none else some v) = none; rw [← HSum.out, sumTo_step hq2, if_pos hd]))
                go_wp2_with fail
                refine (digit_e p q hq2 _ rfl _).mono ?_
                rintro e w' ⟨rfl, rfl⟩
                go_wp2_with fail
                all_goals (try rw [Exit.noGoto_ret])
                all_goals go_ret2
                all_goals exact ⟨_, by rw [RN.out]; rfl, XB.out, fun l' e => by rw [RN.out] at e; cases e⟩
              · have hd2 : dg (p[q].toNat : Int) ≤ 15 := by omega
                have hd1 : 0 ≤ dg (p[q].toNat : Int) := dg_range.1
                obtain ⟨D, hD⟩ : ∃ D, D = dg (p[q].toNat : Int) := ⟨_, rfl⟩
                rw [← hD] at hd1 hd2
                have HD := Lib.hid hD
                have hS2 : S ≤ 4095 := pow_small HS.out (by omega)
                have HSum2 : Hid (sumTo 16 (p.drop (q + 1)) (S * 16 + D) = sumTo 16 p 0) := Lib.hid (by rw [← HSum.out, sumTo_step hq2, if_neg hd, HD.out])
                have HS2 : Hid (S * 16 + D < 16 ^ (q + 1)) := Lib.hid (pow_step16 HS.out hd2)
                clear hd hD
                go_wp2_with fail
                refine (digit_e p q hq2 D HD.out _).mono ?_
                rintro e w' ⟨rfl, rfl⟩
                go_wp2_with fail
                go_roundg g2
                case measure => omega
                case rel => exact ⟨q + 1, S * 16 + D, by omega, by go_num, rfl, by omega, by omega, HS2, HSum2, rfl⟩

end Go.Proofs.YtlmgbnpimmjijaaDoor
