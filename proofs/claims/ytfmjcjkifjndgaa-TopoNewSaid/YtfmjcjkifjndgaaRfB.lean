/- Graphs, the document's side: Neighbors, Between. -/
import Derived.Test.YtfmjcjkifjndgaaRfA
namespace Go.Proofs.Ytfmjcjkifjndgaa
open Go.RowKit
set_option linter.unusedVariables false
set_option linter.unusedSimpArgs false
set_option maxRecDepth 100000

theorem bst_at {s : GS} {k : Nat} {x : LK} (hx : s.L[k]? = some x) (n m : Int) : bst s n m k = if s.up k && ((x.a == n) && (x.b == m) || (x.a == m) && (x.b == n)) then [(k : Int)] else [] := by
  unfold bst; rw [hx]; rfl
theorem nstep_at {s : GS} {k : Nat} {x : LK} (hx : s.L[k]? = some x) (n : Int) : nstep s n k = if s.up k then (if x.a == n then [⟨k, x.b, x.c⟩] else if x.b == n then [⟨k, x.a, x.c⟩] else []) else [] := by
  unfold nstep; rw [hx]; simp only [beq_iff_eq]

theorem rneigh_any (r : Nat) (s : GS) (w : World) (H : Rf w r s) (n : Int) :
    Calls Try.prog 49 #[.pointer (some ⟨r, 0, none⟩), .int .i64 n] w (Gives w 74 3 (s.neigh n).length (flatE (s.neigh n))) := by
  have HH := Lib.hid H
  have hm := H.ok.m128
  have hrl := H.lt
  obtain ⟨A1, c1, A2, c2, A3, c3, h⟩ := H
  have y1 : w.cell? ⟨r, 1, none⟩ = some (.slice A1 s.L.length c1) := h.blk.cell 1
  have HY1 := Lib.hid y1
  have HLK := Lib.hid h.lk
  have HF := Lib.hid (fun (k : Nat) (x : LK) (hx : s.L[k]? = some x) => (fine_at h.ok hx).2.2.2.2.2.2)
  obtain ⟨j0, hj0, hz0, hz1, hz2⟩ := info_parts info_edge
  clear h y1
  go_enter Try.func49, Try.ntmps49
  go_wp2_with fail
  go_loopw [5, 6] (fun v i wr => ∃ (k m : Nat) (A5 : Option Addr) (c5 : Nat), k ≤ s.L.length ∧ i = .int .i64 k ∧ Hid (m = (nbr s n k).length) ∧ v = .slice A5 m c5 ∧ wr.ownsRow w.heap.size 74 3 (.slice A5 m c5) m (flatE (nbr s n k)) ∧ Below w.heap.size w wr) (fun _ i _ => s.L.length - (intOf i).toNat)
  case atStart => exact ⟨0, 0, none, 0, Nat.zero_le _, rfl, Lib.hid rfl, rfl, World.ownsRow_nil _ _ _ _, Below.refl _ _⟩
  case round =>
    obtain ⟨k, m, A5, c5, hk, rfl, HM, rfl, hown, hb⟩ := hrel
    have hmk : m ≤ k := by rw [HM.out]; exact nbr_len s n k
    have y1 : wr.cell? ⟨r, 1, none⟩ = some (.slice A1 s.L.length c1) := (hb.cell (p := ⟨r, 1, none⟩) hrl).trans HY1.out
    by_cases hlt : k < s.L.length
    · obtain ⟨x, hx⟩ : ∃ x, s.L[k]? = some x := ⟨s.L[k], by simp [hlt]⟩
      have hlk := HLK.out.below hb
      obtain ⟨b1, o1, rfl, _⟩ := hlk.plain (by omega)
      have hc1 := hlk.cap
      obtain ⟨q0, q1, q2⟩ := hlk.at_ hx
      have hkl : (k : Int) < (s.L.length : Int) := by omega
      have HO1 := Lib.hid (hown.alloc (.cells #[.int .i64 x.a, .int .i64 x.b, .int .i64 x.c] 26))
      have HB1 := Lib.hid (hb.alloc hb.size (.cells #[.int .i64 x.a, .int .i64 x.b, .int .i64 x.c] 26))
      have hv := Has.new wr 26 #[.int .i64 x.a, .int .i64 x.b, .int .i64 x.c]
      have HV1 := Lib.hid hv
      have HX9 := Lib.hid hx
      have hne := HF.out k x hx
      clear hown hb hx hv hlk
      go_upto_region 6 with fail
      generalize wr.alloc (.cells #[.int .i64 x.a, .int .i64 x.b, .int .i64 x.c] 26) = W1 at *
      clear q0 q1 q2 y1
      go_wp2_with fail
      refine (rup_any r s W1 (HH.out.below HB1.out) k).mono ?_
      rintro e w5 ⟨rfl, hb5⟩
      rw [upI_nat]
      have HO5 := Lib.hid (own_keep HO1.out hb5)
      have HB5 := Lib.hid (HB1.out.trans (hb5.mono HB1.out.size))
      have HV5 := Lib.hid (HV1.out.below hb5)
      have v0 : w5.cell? ⟨wr.heap.size, 0, none⟩ = some (.int .i64 x.a) := HV5.out.cell 0
      have v1 : w5.cell? ⟨wr.heap.size, 1, none⟩ = some (.int .i64 x.b) := HV5.out.cell 1
      have v2 : w5.cell? ⟨wr.heap.size, 2, none⟩ = some (.int .i64 x.c) := HV5.out.cell 2
      clear hb5
      have HNS := Lib.hid (nstep_at HX9.out n)
      have HSu := Lib.hid (nbr_succ s n k)
      cases hu : s.up k
      · have HS : Hid (nbr s n (k + 1) = nbr s n k ++ []) := Lib.hid (by rw [HSu.out, HNS.out, hu]; rfl)
        clear HNS
        go_wp2_with fail
        refine (rup_any r s w5 (HH.out.below HB5.out) k).mono ?_
        rintro e w7 ⟨rfl, hb7⟩
        rw [upI_nat]
        have HO7 := Lib.hid (own_keep HO5.out hb7)
        have HB7 := Lib.hid (HB5.out.trans (hb7.mono HB5.out.size))
        have HV7 := Lib.hid (HV5.out.below hb7)
        have u0 : w7.cell? ⟨wr.heap.size, 0, none⟩ = some (.int .i64 x.a) := HV7.out.cell 0
        have u1 : w7.cell? ⟨wr.heap.size, 1, none⟩ = some (.int .i64 x.b) := HV7.out.cell 1
        have u2 : w7.cell? ⟨wr.heap.size, 2, none⟩ = some (.int .i64 x.c) := HV7.out.cell 2
        clear hb7 v0 v1 v2
        rw [hu]
        go_wp2_with fail
        go_roundw
        case rel => exact ⟨k + 1, m, A5, c5, by omega, by go_num, Lib.hid (by rw [HS.out, List.append_nil]; exact HM.out), rfl, by rw [HS.out, List.append_nil]; exact HO7.out, HB7.out⟩
        case measure => simp [intOf]; omega
      · obtain ⟨p1, hp1⟩ : ∃ p, (x.a == n) = p := ⟨_, rfl⟩
        obtain ⟨p2, hp2⟩ : ∃ p, (x.b == n) = p := ⟨_, rfl⟩
        have hpp : p1 = true → p2 = false := by
          rintro rfl
          rw [← hp2]
          simp only [beq_iff_eq] at hp1
          simp; omega
        have HNN : Hid (nstep s n k = (if p1 then [⟨k, x.b, x.c⟩] else if p2 then [⟨k, x.a, x.c⟩] else [])) := Lib.hid (by rw [HNS.out, hu, hp1, hp2]; rfl)
        clear HNS hne
        cases p1
        · cases p2
          · have HS : Hid (nbr s n (k + 1) = nbr s n k ++ []) := Lib.hid (by rw [HSu.out, HNN.out]; try rfl)
            go_wp2_with fail
            refine (rup_any r s w5 (HH.out.below HB5.out) k).mono ?_
            rintro e w7 ⟨rfl, hb7⟩
            rw [upI_nat]
            have HO7 := Lib.hid (own_keep HO5.out hb7)
            have HB7 := Lib.hid (HB5.out.trans (hb7.mono HB5.out.size))
            have HV7 := Lib.hid (HV5.out.below hb7)
            have u0 : w7.cell? ⟨wr.heap.size, 0, none⟩ = some (.int .i64 x.a) := HV7.out.cell 0
            have u1 : w7.cell? ⟨wr.heap.size, 1, none⟩ = some (.int .i64 x.b) := HV7.out.cell 1
            have u2 : w7.cell? ⟨wr.heap.size, 2, none⟩ = some (.int .i64 x.c) := HV7.out.cell 2
            clear hb7 v0 v1 v2
            rw [hu]
            go_wp2_with fail
            go_roundw
            case rel => exact ⟨k + 1, m, A5, c5, by omega, by go_num, Lib.hid (by rw [HS.out, List.append_nil]; exact HM.out), rfl, by rw [HS.out, List.append_nil]; exact HO7.out, HB7.out⟩
            case measure => simp [intOf]; omega
          · have HS : Hid (nbr s n (k + 1) = nbr s n k ++ [⟨k, x.a, x.c⟩]) := Lib.hid (by rw [HSu.out, HNN.out]; rfl)
            go_wp2_with fail
            refine (rup_any r s w5 (HH.out.below HB5.out) k).mono ?_
            rintro e w7 ⟨rfl, hb7⟩
            rw [upI_nat]
            have HO7 := Lib.hid (own_keep HO5.out hb7)
            have HB7 := Lib.hid (HB5.out.trans (hb7.mono HB5.out.size))
            have HV7 := Lib.hid (HV5.out.below hb7)
            have u0 : w7.cell? ⟨wr.heap.size, 0, none⟩ = some (.int .i64 x.a) := HV7.out.cell 0
            have u1 : w7.cell? ⟨wr.heap.size, 1, none⟩ = some (.int .i64 x.b) := HV7.out.cell 1
            have u2 : w7.cell? ⟨wr.heap.size, 2, none⟩ = some (.int .i64 x.c) := HV7.out.cell 2
            clear hb7 v0 v1 v2
            rw [hu]
            go_wp2_with (at_builtin; refine wpList_append_own _ rfl _ _ 56 rfl w.heap.size 74 j0 (.agg #[.int .i64 0, .int .i64 0, .int .i64 0]) 3 24 Try.underlying56 hj0 hz0 hz1 hz2 rfl (by decide) _ _ _ rfl (HO7.out.alloc _) ⟨w7.heap.size, 0, none⟩ 1 1 (ED.l3 ⟨k, x.a, x.c⟩) rfl rfl (laid_block w7 _ _) (l3_one _) (by unfold maxLen; omega) (by omega) (by have := HB7.out.size; simp; omega) ?_)
            intro v' w8 hown hgrow hnil
            obtain ⟨A', c', rfl, _⟩ := own_form hown
            have HO8 := Lib.hid hown
            have HB8 : Hid (Below w.heap.size w w8) := Lib.hid (grown_below (HB7.out.alloc HB7.out.size _) hgrow (fun r hr => (HO7.out.lt r hr).1) (by have := HB7.out.size; simp; omega))
            clear hown hgrow hnil
            go_wp2_with fail
            go_roundw
            case rel => exact ⟨k + 1, m + 1, A', c', by omega, by go_num, Lib.hid (by rw [HS.out, List.length_append, ← HM.out]; rfl), rfl, by rw [HS.out, flatE_snoc]; exact HO8.out, HB8.out⟩
            case measure => simp [intOf]; omega
        · obtain rfl : p2 = false := hpp rfl
          have HS : Hid (nbr s n (k + 1) = nbr s n k ++ [⟨k, x.b, x.c⟩]) := Lib.hid (by rw [HSu.out, HNN.out]; rfl)
          go_wp2_with (at_builtin; refine wpList_append_own _ rfl _ _ 56 rfl w.heap.size 74 j0 (.agg #[.int .i64 0, .int .i64 0, .int .i64 0]) 3 24 Try.underlying56 hj0 hz0 hz1 hz2 rfl (by decide) _ _ _ rfl (HO5.out.alloc _) ⟨w5.heap.size, 0, none⟩ 1 1 (ED.l3 ⟨k, x.b, x.c⟩) rfl rfl (laid_block w5 _ _) (l3_one _) (by unfold maxLen; omega) (by omega) (by have := HB5.out.size; simp; omega) ?_)
          intro v' w6 hown hgrow hnil
          obtain ⟨A', c', rfl, _⟩ := own_form hown
          have HO6 := Lib.hid hown
          have HB6 : Hid (Below w.heap.size w w6) := Lib.hid (grown_below (HB5.out.alloc HB5.out.size _) hgrow (fun r hr => (HO5.out.lt r hr).1) (by have := HB5.out.size; simp; omega))
          have HV6 := Lib.hid (Has.grown (HV5.out.below (alloc_below w5 _)) hgrow (by intro h9; have := own_not HV5.out (by decide) HO5.out; exact this h9.symm))
          clear hown hgrow hnil
          go_wp2_with fail
          refine (rup_any r s w6 (HH.out.below HB6.out) k).mono ?_
          rintro e w7 ⟨rfl, hb7⟩
          rw [upI_nat]
          have HO7 := Lib.hid (own_keep HO6.out hb7)
          have HB7 := Lib.hid (HB6.out.trans (hb7.mono HB6.out.size))
          have HV7 := Lib.hid (HV6.out.below hb7)
          have u0 : w7.cell? ⟨wr.heap.size, 0, none⟩ = some (.int .i64 x.a) := HV7.out.cell 0
          have u1 : w7.cell? ⟨wr.heap.size, 1, none⟩ = some (.int .i64 x.b) := HV7.out.cell 1
          have u2 : w7.cell? ⟨wr.heap.size, 2, none⟩ = some (.int .i64 x.c) := HV7.out.cell 2
          clear hb7 v0 v1 v2
          rw [hu]
          go_wp2_with fail
          go_roundw
          case rel => exact ⟨k + 1, m + 1, A', c', by omega, by go_num, Lib.hid (by rw [HS.out, List.length_append, ← HM.out]; rfl), rfl, by rw [HS.out, flatE_snoc]; exact HO7.out, HB7.out⟩
          case measure => simp [intOf]; omega
    · obtain rfl : k = s.L.length := by omega
      have HO := Lib.hid hown
      have HB := Lib.hid hb
      clear hown hb
      go_wp2_with fail
      go_ret
      refine ⟨A5, c5, ?_, ?_, HB.out⟩
      · rw [show (s.neigh n).length = m from HM.out.symm]; rfl
      · rw [show (s.neigh n).length = m from HM.out.symm]; exact HO.out

def bbs (s : GS) (n m : Int) (k : Nat) : List Int := (List.range k).flatMap (bst s n m)
theorem bbs_succ (s : GS) (n m : Int) (k : Nat) : bbs s n m (k + 1) = bbs s n m k ++ bst s n m k := by simp [bbs, List.range_succ]
theorem rbtw_any (r : Nat) (s : GS) (w : World) (H : Rf w r s) (n m : Int) :
    Calls Try.prog 51 #[.pointer (some ⟨r, 0, none⟩), .int .i64 n, .int .i64 m] w (Gives w 3 1 (s.btw n m).length (ints (s.btw n m))) := by
  have HAll : Hid (s.btw n m = bbs s n m s.L.length) := Lib.hid (btw_bst H.ok n m _)
  have HH := Lib.hid H
  have hm := H.ok.m128
  have hrl := H.lt
  obtain ⟨A1, c1, A2, c2, A3, c3, h⟩ := H
  have y1 : w.cell? ⟨r, 1, none⟩ = some (.slice A1 s.L.length c1) := h.blk.cell 1
  have HY1 := Lib.hid y1
  have HLK := Lib.hid h.lk
  obtain ⟨j0, hj0, hz0, hz1, hz2⟩ := info_parts info_int
  clear h y1
  go_enter Try.func51, Try.ntmps51
  go_wp2_with fail
  go_loopw [7, 8] (fun v i wr => ∃ (k p : Nat) (A7 : Option Addr) (c7 : Nat), k ≤ s.L.length ∧ i = .int .i64 k ∧ Hid (p = (bbs s n m k).length) ∧ p ≤ k ∧ v = .slice A7 p c7 ∧ wr.ownsRow w.heap.size 3 1 (.slice A7 p c7) p (ints (bbs s n m k)) ∧ Below w.heap.size w wr) (fun _ i _ => s.L.length - (intOf i).toNat)
  case atStart => exact ⟨0, 0, none, 0, Nat.zero_le _, rfl, Lib.hid rfl, Nat.le_refl _, rfl, World.ownsRow_nil _ _ _ _, Below.refl _ _⟩
  case round =>
    obtain ⟨k, p, A7, c7, hk, rfl, HP, hpk, rfl, hown, hb⟩ := hrel
    have y1 : wr.cell? ⟨r, 1, none⟩ = some (.slice A1 s.L.length c1) := (hb.cell (p := ⟨r, 1, none⟩) hrl).trans HY1.out
    by_cases hlt : k < s.L.length
    · obtain ⟨x, hx⟩ : ∃ x, s.L[k]? = some x := ⟨s.L[k], by simp [hlt]⟩
      have hlk := HLK.out.below hb
      obtain ⟨b1, o1, rfl, _⟩ := hlk.plain (by omega)
      have hc1 := hlk.cap
      obtain ⟨q0, q1, q2⟩ := hlk.at_ hx
      have hkl : (k : Int) < (s.L.length : Int) := by omega
      have HO1 := Lib.hid (hown.alloc (.cells #[.int .i64 x.a, .int .i64 x.b, .int .i64 x.c] 26))
      have HB1 := Lib.hid (hb.alloc hb.size (.cells #[.int .i64 x.a, .int .i64 x.b, .int .i64 x.c] 26))
      have hv := Has.new wr 26 #[.int .i64 x.a, .int .i64 x.b, .int .i64 x.c]
      have HV1 := Lib.hid hv
      have HX9 := Lib.hid hx
      clear hown hb hx hv hlk
      go_upto_region 6 with fail
      generalize wr.alloc (.cells #[.int .i64 x.a, .int .i64 x.b, .int .i64 x.c] 26) = W1 at *
      clear q0 q1 q2 y1
      go_wp2_with fail
      refine (rup_any r s W1 (HH.out.below HB1.out) k).mono ?_
      rintro e w5 ⟨rfl, hb5⟩
      rw [upI_nat]
      have HO5 := Lib.hid (own_keep HO1.out hb5)
      have HB5 := Lib.hid (HB1.out.trans (hb5.mono HB1.out.size))
      have HV5 := Lib.hid (HV1.out.below hb5)
      have v0 : w5.cell? ⟨wr.heap.size, 0, none⟩ = some (.int .i64 x.a) := HV5.out.cell 0
      have v1 : w5.cell? ⟨wr.heap.size, 1, none⟩ = some (.int .i64 x.b) := HV5.out.cell 1
      have v2 : w5.cell? ⟨wr.heap.size, 2, none⟩ = some (.int .i64 x.c) := HV5.out.cell 2
      clear hb5
      have HNS := Lib.hid (bst_at HX9.out n m)
      have HSu := Lib.hid (bbs_succ s n m k)
      cases hu : s.up k
      · have HNN : Hid (bst s n m k = []) := Lib.hid (by rw [HNS.out, hu]; rfl)
        clear HNS hu
        have HS : Hid (bbs s n m (k + 1) = bbs s n m k ++ []) := Lib.hid (by rw [HSu.out, HNN.out]; try rfl)
        go_wp2_with fail
        go_roundw
        case rel => exact ⟨k + 1, p, A7, c7, by omega, by go_num, Lib.hid (by rw [HS.out, List.append_nil]; exact HP.out), by omega, rfl, by rw [HS.out, List.append_nil]; exact HO5.out, HB5.out⟩
        case measure => simp [intOf]; omega
      · obtain ⟨p1, hp1⟩ : ∃ p, (x.a == n) = p := ⟨_, rfl⟩
        obtain ⟨p2, hp2⟩ : ∃ p, (x.b == m) = p := ⟨_, rfl⟩
        obtain ⟨p3, hp3⟩ : ∃ p, (x.a == m) = p := ⟨_, rfl⟩
        obtain ⟨p4, hp4⟩ : ∃ p, (x.b == n) = p := ⟨_, rfl⟩
        have HNN : Hid (bst s n m k = if p1 && p2 || p3 && p4 then [(k : Int)] else []) := Lib.hid (by rw [HNS.out, hu, hp1, hp2, hp3, hp4]; rfl)
        clear HNS hu
        cases p1
        · cases p3
          · have HS : Hid (bbs s n m (k + 1) = bbs s n m k ++ []) := Lib.hid (by rw [HSu.out, HNN.out]; try rfl)
            go_wp2_with fail
            go_roundw
            case rel => exact ⟨k + 1, p, A7, c7, by omega, by go_num, Lib.hid (by rw [HS.out, List.append_nil]; exact HP.out), by omega, rfl, by rw [HS.out, List.append_nil]; exact HO5.out, HB5.out⟩
            case measure => simp [intOf]; omega
          · cases p4
            · have HS : Hid (bbs s n m (k + 1) = bbs s n m k ++ []) := Lib.hid (by rw [HSu.out, HNN.out]; try rfl)
              go_wp2_with fail
              go_roundw
              case rel => exact ⟨k + 1, p, A7, c7, by omega, by go_num, Lib.hid (by rw [HS.out, List.append_nil]; exact HP.out), by omega, rfl, by rw [HS.out, List.append_nil]; exact HO5.out, HB5.out⟩
              case measure => simp [intOf]; omega
            · have HS : Hid (bbs s n m (k + 1) = bbs s n m k ++ [(k : Int)]) := Lib.hid (by rw [HSu.out, HNN.out]; rfl)
              go_wp2_with (at_builtin; refine wpList_append_own _ rfl _ _ 58 rfl w.heap.size 3 j0 (.int .i64 0) 1 8 Try.underlying58 hj0 hz0 hz1 hz2 rfl (by decide) _ _ _ rfl (HO5.out.alloc _) ⟨w5.heap.size, 0, none⟩ 1 1 [.int .i64 (k : Int)] rfl rfl (laid_block w5 _ _) (by simp [Value.oneCell']) (by unfold maxLen; omega) (by omega) (by have := HB5.out.size; simp; omega) ?_)
              intro v' w6 hown hgrow hnil
              obtain ⟨A', c', rfl, _⟩ := own_form hown
              have HO6 := Lib.hid hown
              have HB6 : Hid (Below w.heap.size w w6) := Lib.hid (grown_below (HB5.out.alloc HB5.out.size _) hgrow (fun r hr => (HO5.out.lt r hr).1) (by have := HB5.out.size; simp; omega))
              clear hown hgrow hnil
              go_wp2_with fail
              go_roundw
              case rel => exact ⟨k + 1, p + 1, A', c', by omega, by go_num, Lib.hid (by rw [HS.out, List.length_append, ← HP.out]; rfl), by omega, rfl, by rw [HS.out]; simp only [ints, List.map_append]; exact HO6.out, HB6.out⟩
              case measure => simp [intOf]; omega
        · cases p2
          · cases p3
            · have HS : Hid (bbs s n m (k + 1) = bbs s n m k ++ []) := Lib.hid (by rw [HSu.out, HNN.out]; try rfl)
              go_wp2_with fail
              go_roundw
              case rel => exact ⟨k + 1, p, A7, c7, by omega, by go_num, Lib.hid (by rw [HS.out, List.append_nil]; exact HP.out), by omega, rfl, by rw [HS.out, List.append_nil]; exact HO5.out, HB5.out⟩
              case measure => simp [intOf]; omega
            · cases p4
              · have HS : Hid (bbs s n m (k + 1) = bbs s n m k ++ []) := Lib.hid (by rw [HSu.out, HNN.out]; try rfl)
                go_wp2_with fail
                go_roundw
                case rel => exact ⟨k + 1, p, A7, c7, by omega, by go_num, Lib.hid (by rw [HS.out, List.append_nil]; exact HP.out), by omega, rfl, by rw [HS.out, List.append_nil]; exact HO5.out, HB5.out⟩
                case measure => simp [intOf]; omega
              · have HS : Hid (bbs s n m (k + 1) = bbs s n m k ++ [(k : Int)]) := Lib.hid (by rw [HSu.out, HNN.out]; rfl)
                go_wp2_with (at_builtin; refine wpList_append_own _ rfl _ _ 58 rfl w.heap.size 3 j0 (.int .i64 0) 1 8 Try.underlying58 hj0 hz0 hz1 hz2 rfl (by decide) _ _ _ rfl (HO5.out.alloc _) ⟨w5.heap.size, 0, none⟩ 1 1 [.int .i64 (k : Int)] rfl rfl (laid_block w5 _ _) (by simp [Value.oneCell']) (by unfold maxLen; omega) (by omega) (by have := HB5.out.size; simp; omega) ?_)
                intro v' w6 hown hgrow hnil
                obtain ⟨A', c', rfl, _⟩ := own_form hown
                have HO6 := Lib.hid hown
                have HB6 : Hid (Below w.heap.size w w6) := Lib.hid (grown_below (HB5.out.alloc HB5.out.size _) hgrow (fun r hr => (HO5.out.lt r hr).1) (by have := HB5.out.size; simp; omega))
                clear hown hgrow hnil
                go_wp2_with fail
                go_roundw
                case rel => exact ⟨k + 1, p + 1, A', c', by omega, by go_num, Lib.hid (by rw [HS.out, List.length_append, ← HP.out]; rfl), by omega, rfl, by rw [HS.out]; simp only [ints, List.map_append]; exact HO6.out, HB6.out⟩
                case measure => simp [intOf]; omega
          · have HS : Hid (bbs s n m (k + 1) = bbs s n m k ++ [(k : Int)]) := Lib.hid (by rw [HSu.out, HNN.out]; rfl)
            go_wp2_with (at_builtin; refine wpList_append_own _ rfl _ _ 58 rfl w.heap.size 3 j0 (.int .i64 0) 1 8 Try.underlying58 hj0 hz0 hz1 hz2 rfl (by decide) _ _ _ rfl (HO5.out.alloc _) ⟨w5.heap.size, 0, none⟩ 1 1 [.int .i64 (k : Int)] rfl rfl (laid_block w5 _ _) (by simp [Value.oneCell']) (by unfold maxLen; omega) (by omega) (by have := HB5.out.size; simp; omega) ?_)
            intro v' w6 hown hgrow hnil
            obtain ⟨A', c', rfl, _⟩ := own_form hown
            have HO6 := Lib.hid hown
            have HB6 : Hid (Below w.heap.size w w6) := Lib.hid (grown_below (HB5.out.alloc HB5.out.size _) hgrow (fun r hr => (HO5.out.lt r hr).1) (by have := HB5.out.size; simp; omega))
            clear hown hgrow hnil
            go_wp2_with fail
            go_roundw
            case rel => exact ⟨k + 1, p + 1, A', c', by omega, by go_num, Lib.hid (by rw [HS.out, List.length_append, ← HP.out]; rfl), by omega, rfl, by rw [HS.out]; simp only [ints, List.map_append]; exact HO6.out, HB6.out⟩
            case measure => simp [intOf]; omega
    · obtain rfl : k = s.L.length := by omega
      have HO := Lib.hid hown
      have HB := Lib.hid hb
      clear hown hb
      go_wp2_with fail
      go_ret
      refine ⟨A7, c7, ?_, ?_, HB.out⟩
      · rw [HAll.out, ← HP.out]; rfl
      · rw [HAll.out, ← HP.out]; exact HO.out

end Go.Proofs.Ytfmjcjkifjndgaa
