/- Graphs: Flags, Neighbors, Between. -/
import Derived.Test.YtfmjcjkifjndgaaToD
namespace Go.Proofs.Ytfmjcjkifjndgaa
open Go.RowKit
set_option linter.unusedVariables false
set_option linter.unusedSimpArgs false
set_option maxRecDepth 100000

/-- A call returns a list of its own. -/
def Gives (w : World) (t : TypeId) (k n : Nat) (xs : List Value) (e : Ending) (w' : World) : Prop := ∃ A c, e = .returned (.slice A n c) ∧ w'.ownsRow w.heap.size t k (.slice A n c) n xs ∧ Below w.heap.size w w'

theorem laid_block (w : World) (t : TypeId) (cs : List Value) : ∀ j u, cs[j]? = some u → (w.alloc (.cells cs.toArray t)).cell? ((⟨w.heap.size, 0, none⟩ : Addr).add j) = some u := fun j u hu => by
  have h := Has.new w t cs.toArray
  rw [add_plain, Nat.zero_add, h.cell, ← Array.getElem?_toList]
  exact hu

/-- The flags while the first k are written. -/
def flk (s : GS) (k : Nat) : List Value := (List.range s.L.length).map (fun j => Value.bool (if j < k then s.up j else false))
theorem flk_zero (s : GS) : (flk s 0).toArray = madeCells #[.bool false] s.L.length := by
  apply Array.toList_inj.1
  rw [toList_madeCells_one]
  exact List.ext_getElem (by simp [flk]) (fun i h1 h2 => by simp [flk])
theorem flk_step (s : GS) (k : Nat) (hk : k < s.L.length) : (flk s k).toArray.setIfInBounds k (.bool (s.up k)) = (flk s (k + 1)).toArray := by
  apply Array.toList_inj.1
  rw [Array.toList_setIfInBounds]
  refine List.ext_getElem (by simp [flk]) (fun j h1 h2 => ?_)
  rw [List.getElem_set]
  by_cases e : k = j
  · subst e; simp [flk]
  · rw [if_neg e]
    simp only [flk, List.getElem_map, List.getElem_range]
    by_cases h3 : j < k
    · rw [if_pos h3, if_pos (by omega)]
    · rw [if_neg h3, if_neg (by omega)]
theorem flk_all (s : GS) : flk s s.L.length = s.flags.map Value.bool := by
  unfold flk GS.flags
  rw [List.map_map]
  refine List.map_congr_left fun j hj => ?_
  rw [if_pos (by simpa using hj)]; rfl
theorem upI_nat (s : GS) (k : Nat) : s.upI (k : Int) = s.up k := by unfold GS.upI; simp

theorem flags_any (g b : Nat) (s : GS) (w : World) (H : Gr w g b s) :
    Calls Try.prog 27 #[.pointer (some ⟨g, 0, none⟩)] w (Gives w 4 1 s.L.length (s.flags.map Value.bool)) := by
  have HH := Lib.hid H
  have HLt := Lib.hid H.lt
  obtain ⟨A, c, a0, a1, i0, i1, h⟩ := H
  have c1 : w.cell? ⟨g, 1, none⟩ = some (.slice A s.L.length c) := h.blk.cell 1
  have hm := h.ok.m128
  obtain ⟨j0, hj0, hz0, hz1, hz2⟩ := info_parts info_bool
  have HN : Hid (Has (w.alloc (.cells (madeCells #[.bool false] s.L.length) 4)) w.heap.size 4 (flk s 0).toArray) := Lib.hid (by rw [flk_zero]; exact Has.new _ _ _)
  have HB : Hid (Below w.heap.size w (w.alloc (.cells (madeCells #[.bool false] s.L.length) 4))) := Lib.hid ((Below.refl _ w).alloc (Nat.le_refl _) _)
  clear h
  go_enter Try.func27, Try.ntmps27
  go_upto_region 4 with (first
    | (go_at_call 53; refine (valid_yes _ _ _ _ HH.out).mono ?_; rintro e w' ⟨rfl, rfl⟩)
    | (refine wpList_make_row _ rfl _ _ 54 rfl 4 j0 (.bool false) Try.underlying54 hj0 hz0 hz1 rfl .i64 .i64 s.L.length rfl rfl (by rw [hz2]; omega) (by omega) ?_))
  generalize w.alloc (.cells (madeCells #[.bool false] s.L.length) 4) = W1 at *
  go_wp2_with fail
  go_loopw [16] (fun i wr => ∃ k : Nat, k ≤ s.L.length ∧ i = .int .i64 k ∧ Has wr w.heap.size 4 (flk s k).toArray ∧ Below w.heap.size w wr) (fun i _ => s.L.length - (intOf i).toNat)
  case atStart => exact ⟨0, Nat.zero_le _, rfl, HN.out, HB.out⟩
  case round =>
    obtain ⟨k, hk, rfl, hh, hb⟩ := hrel
    have HHas := Lib.hid hh
    have HBw := Lib.hid hb
    have HG := Lib.hid (HH.out.below hb)
    have f0 := hh.free k
    clear hb
    by_cases hlt : k < s.L.length
    · have hw : IntKind.i64.wrap (k : Int) = (k : Int) := IntWalk.i64_in _ (by omega)
      have hk2 : (k : Int) < (s.L.length : Int) := by omega
      have ce : wr.cell? ⟨w.heap.size, k, none⟩ = some (.bool false) := by
        rw [hh.cell k]
        simp [flk, hlt]
      clear hh
      go_wp2_with (go_at_call 24; refine (up_any _ _ _ _ HG.out _).mono ?_; rintro e w' ⟨rfl, rfl⟩)
      go_roundw
      case rel =>
        refine ⟨k + 1, by omega, by go_num, ?_, HBw.out.setCell (p := ⟨w.heap.size, k, none⟩) (Nat.le_refl _) _⟩
        rw [upI_nat, ← flk_step s k hlt]
        exact HHas.out.set_ k _
      case measure => simp [intOf]; omega
    · obtain rfl : k = s.L.length := by omega
      clear hh
      go_wp2_with fail
      go_ret
      refine ⟨_, _, rfl, ⟨by simp [GS.flags], .inr ⟨w.heap.size, s.L.length, _, rfl, Nat.le_refl _, HHas.out, Nat.le_refl _, by unfold maxLen; omega, by simp [flk], ?_⟩⟩, HBw.out⟩
      rw [flk_all]
      exact List.take_of_length_le (by simp [GS.flags])

def ED.l3 (x : ED) : List Value := [.int .i64 x.l, .int .i64 x.n, .int .i64 x.c]
def flatE (E : List ED) : List Value := E.flatMap ED.l3
theorem flatE_snoc (E : List ED) (x : ED) : flatE (E ++ [x]) = flatE E ++ x.l3 := by simp [flatE]
theorem flatE_len (E : List ED) : (flatE E).length = E.length * 3 := by
  induction E with
  | nil => rfl
  | cons x L ih => 
    have : flatE (x :: L) = x.l3 ++ flatE L := by simp [flatE]
    rw [this, List.length_append, ih]; simp [ED.l3]; omega
theorem l3_one (x : ED) : ∀ u ∈ x.l3, u.oneCell' = true := by
  intro u hu
  simp [ED.l3] at hu
  rcases hu with rfl | rfl | rfl <;> rfl

theorem neigh_any (g b : Nat) (s : GS) (w : World) (H : Gr w g b s) (n : Int) :
    Calls Try.prog 28 #[.pointer (some ⟨g, 0, none⟩), .int .i64 n] w (Gives w 74 3 (s.neigh n).length (flatE (s.neigh n))) := by
  have HH := Lib.hid H
  have HLt := Lib.hid H.lt
  obtain ⟨A, c, a0, a1, i0, i1, h⟩ := H
  have hm := h.ok.m128
  cases hal : s.alive n
  · have HE : Hid (s.neigh n = []) := Lib.hid (neigh_dead h.ok hal _)
    have HA := Lib.hid hal
    clear h hal
    go_enter Try.func28, Try.ntmps28
    go_wp2_with (go_at_call 23; refine (alive_any _ _ _ _ HH.out _).mono ?_; rintro e w' ⟨rfl, rfl⟩; rw [HA.out])
    go_ret
    rw [HE.out]
    exact ⟨none, 0, rfl, World.ownsRow_nil _ _ _ _, Below.refl _ _⟩
  · have HA := Lib.hid hal
    have c1 : w.cell? ⟨g, 1, none⟩ = some (.slice A s.L.length c) := h.blk.cell 1
    have HX := Lib.hid h
    obtain ⟨j0, hj0, hz0, hz1, hz2⟩ := info_parts info_edge
    clear h hal
    go_enter Try.func28, Try.ntmps28
    go_wp2_with (go_at_call 23; refine (alive_any _ _ _ _ HH.out _).mono ?_; rintro e w' ⟨rfl, rfl⟩; rw [HA.out])
    go_loopw [5, 17] (fun v i wr => ∃ (k m : Nat) (A5 : Option Addr) (c5 : Nat), k ≤ s.L.length ∧ i = .int .i64 k ∧ Hid (m = (nbr s n k).length) ∧ v = .slice A5 m c5 ∧ wr.ownsRow w.heap.size 74 3 (.slice A5 m c5) m (flatE (nbr s n k)) ∧ Below w.heap.size w wr) (fun _ i _ => s.L.length - (intOf i).toNat)
    case atStart => exact ⟨0, 0, none, 0, Nat.zero_le _, rfl, Lib.hid rfl, rfl, World.ownsRow_nil _ _ _ _, Below.refl _ _⟩
    case round =>
      obtain ⟨k, m, A5, c5, hk, rfl, HM, rfl, hown, hb⟩ := hrel
      have hmk : m ≤ k := by rw [HM.out]; exact nbr_len s n k
      by_cases hlt : k < s.L.length
      · obtain ⟨x, hx⟩ : ∃ x, s.L[k]? = some x := ⟨s.L[k], by simp [hlt]⟩
        obtain rfl : A = some ⟨b, 0, none⟩ := by
          rcases HX.out.ad with h9 | h9
          · have := HX.out.lks.nil h9; omega
          · exact h9
        obtain ⟨q0, q1, q2⟩ := (HX.out.lks.below hb).at_ hx
        rw [Nat.zero_add] at q0 q1 q2
        have hkl : (k : Int) < (s.L.length : Int) := by omega
        have HO1 := Lib.hid (hown.alloc (.cells #[.int .i64 x.a, .int .i64 x.b, .int .i64 x.c] 26))
        have HB1 := Lib.hid (hb.alloc hb.size (.cells #[.int .i64 x.a, .int .i64 x.b, .int .i64 x.c] 26))
        have HG1 := Lib.hid (HH.out.below (hb.alloc hb.size (.cells #[.int .i64 x.a, .int .i64 x.b, .int .i64 x.c] 26)))
        have hv := Has.new wr 26 #[.int .i64 x.a, .int .i64 x.b, .int .i64 x.c]
        have v0 : (wr.alloc (.cells #[.int .i64 x.a, .int .i64 x.b, .int .i64 x.c] 26)).cell? ⟨wr.heap.size, 0, none⟩ = some (.int .i64 x.a) := hv.cell 0
        have v1 : (wr.alloc (.cells #[.int .i64 x.a, .int .i64 x.b, .int .i64 x.c] 26)).cell? ⟨wr.heap.size, 1, none⟩ = some (.int .i64 x.b) := hv.cell 1
        have v2 : (wr.alloc (.cells #[.int .i64 x.a, .int .i64 x.b, .int .i64 x.c] 26)).cell? ⟨wr.heap.size, 2, none⟩ = some (.int .i64 x.c) := hv.cell 2
        have hlt9 : wr.heap.size < (wr.alloc (.cells #[.int .i64 x.a, .int .i64 x.b, .int .i64 x.c] 26)).heap.size := hv.lt
        have HX9 := Lib.hid hx
        clear hown hb hx hv
        go_upto_region 7 with fail
        generalize wr.alloc (.cells #[.int .i64 x.a, .int .i64 x.b, .int .i64 x.c] 26) = W1 at *
        cases hu : s.up k
        · have HU : Hid (s.upI (k : Int) = false) := Lib.hid (by rw [upI_nat, hu])
          have HS : Hid (nbr s n (k + 1) = nbr s n k) := Lib.hid (by rw [nbr_succ]; simp [nstep, HX9.out, hu])
          clear hu
          go_wp2_with (go_at_call 24; refine (up_any _ _ _ _ HG1.out _).mono ?_; rintro e w' ⟨rfl, rfl⟩; rw [HU.out])
          go_roundw
          case rel => exact ⟨k + 1, m, A5, c5, by omega, by go_num, Lib.hid (by rw [HS.out]; exact HM.out), rfl, by rw [HS.out]; exact HO1.out, HB1.out⟩
          case measure => simp [intOf]; omega
        · have HU : Hid (s.upI (k : Int) = true) := Lib.hid (by rw [upI_nat, hu])
          by_cases ha : x.a = n
          · have HS : Hid (nbr s n (k + 1) = nbr s n k ++ [⟨k, x.b, x.c⟩]) := Lib.hid (by rw [nbr_succ]; simp [nstep, HX9.out, hu, ha])
            have hba : (n == x.a) = true := by simp [ha]
            have hbb : (x.a == n) = true := by simp [ha]
            clear hu ha
            go_wp2_with (first
              | (go_at_call 24; refine (up_any _ _ _ _ HG1.out _).mono ?_; rintro e w' ⟨rfl, rfl⟩; rw [HU.out])
              | (at_builtin; refine wpList_append_own _ rfl _ _ 56 rfl w.heap.size 74 j0 (.agg #[.int .i64 0, .int .i64 0, .int .i64 0]) 3 24 Try.underlying56 hj0 hz0 hz1 hz2 rfl (by decide) _ _ _ rfl (HO1.out.alloc _) ⟨W1.heap.size, 0, none⟩ 1 1 (ED.l3 ⟨k, x.b, x.c⟩) rfl rfl (laid_block W1 _ _) (l3_one _) (by unfold maxLen; omega) (by omega) (by have := HB1.out.size; simp; omega) ?_))
            intro v' w1 hown hgrow hnil
            obtain ⟨A', c', rfl, _⟩ := own_form hown
            have HO2 := Lib.hid hown
            have HB2 : Hid (Below w.heap.size w w1) := Lib.hid (grown_below (HB1.out.alloc HB1.out.size _) hgrow (fun r hr => (HO1.out.lt r hr).1) (by have := HB1.out.size; simp; omega))
            clear hown hgrow hnil
            go_wp2_with fail
            go_roundw
            case rel => exact ⟨k + 1, m + 1, A', c', by omega, by go_num, Lib.hid (by rw [HS.out, List.length_append, ← HM.out]; rfl), rfl, by rw [HS.out, flatE_snoc]; exact HO2.out, HB2.out⟩
            case measure => simp [intOf]; omega
          · have hba : (n == x.a) = false := by simp; omega
            by_cases hc : x.b = n
            · have HS : Hid (nbr s n (k + 1) = nbr s n k ++ [⟨k, x.a, x.c⟩]) := Lib.hid (by rw [nbr_succ]; simp [nstep, HX9.out, hu, ha, hc])
              have hbb : (n == x.b) = true := by simp [hc]
              clear hu ha hc
              go_wp2_with (first
                | (go_at_call 24; refine (up_any _ _ _ _ HG1.out _).mono ?_; rintro e w' ⟨rfl, rfl⟩; rw [HU.out])
                | (at_builtin; refine wpList_append_own _ rfl _ _ 56 rfl w.heap.size 74 j0 (.agg #[.int .i64 0, .int .i64 0, .int .i64 0]) 3 24 Try.underlying56 hj0 hz0 hz1 hz2 rfl (by decide) _ _ _ rfl (HO1.out.alloc _) ⟨W1.heap.size, 0, none⟩ 1 1 (ED.l3 ⟨k, x.a, x.c⟩) rfl rfl (laid_block W1 _ _) (l3_one _) (by unfold maxLen; omega) (by omega) (by have := HB1.out.size; simp; omega) ?_))
              intro v' w1 hown hgrow hnil
              obtain ⟨A', c', rfl, _⟩ := own_form hown
              have HO2 := Lib.hid hown
              have HB2 : Hid (Below w.heap.size w w1) := Lib.hid (grown_below (HB1.out.alloc HB1.out.size _) hgrow (fun r hr => (HO1.out.lt r hr).1) (by have := HB1.out.size; simp; omega))
              clear hown hgrow hnil
              go_wp2_with fail
              go_roundw
              case rel => exact ⟨k + 1, m + 1, A', c', by omega, by go_num, Lib.hid (by rw [HS.out, List.length_append, ← HM.out]; rfl), rfl, by rw [HS.out, flatE_snoc]; exact HO2.out, HB2.out⟩
              case measure => simp [intOf]; omega
            · have hbb : (n == x.b) = false := by simp; omega
              have HS : Hid (nbr s n (k + 1) = nbr s n k) := Lib.hid (by rw [nbr_succ]; simp [nstep, HX9.out, hu, ha, hc])
              clear hu ha hc
              go_wp2_with (go_at_call 24; refine (up_any _ _ _ _ HG1.out _).mono ?_; rintro e w' ⟨rfl, rfl⟩; rw [HU.out])
              go_roundw
              case rel => exact ⟨k + 1, m, A5, c5, by omega, by go_num, Lib.hid (by rw [HS.out]; exact HM.out), rfl, by rw [HS.out]; exact HO1.out, HB1.out⟩
              case measure => simp [intOf]; omega
      · obtain rfl : k = s.L.length := by omega
        have HO := Lib.hid hown
        have HB := Lib.hid hb
        clear hown hb
        go_wp2_with fail
        go_ret
        refine ⟨A5, c5, ?_, ?_, HB.out⟩
        · rw [show (s.neigh n).length = m from HM.out.symm]; rfl
        · rw [show (s.neigh n).length = m from HM.out.symm]; exact HO.out

theorem E_at (E : List ED) (i : Nat) (x : ED) (hx : E[i]? = some x) : (flatE E)[i * 3]? = some (.int .i64 x.l) ∧ (flatE E)[i * 3 + 1]? = some (.int .i64 x.n) ∧ (flatE E)[i * 3 + 2]? = some (.int .i64 x.c) := by
  have e : flatE E = flatL (E.map fun y => ⟨y.l, y.n, y.c⟩) := by
    unfold flatE flatL
    rw [List.flatMap_map]
    rfl
  rw [e]
  exact flatL_at _ i ⟨x.l, x.n, x.c⟩ (by simp [hx])
/-- The cells of a list of edges that a call owns. -/
theorem own_E {w : World} {B n c : Nat} {A : Option Addr} {E : List ED} (h : w.ownsRow B 74 3 (.slice A n c) n (flatE E)) (hn : n = E.length) {i : Nat} {x : ED} (hx : E[i]? = some x) : ∃ g, B ≤ g ∧ g < w.heap.size ∧ A = some ⟨g, 0, none⟩ ∧ n ≤ c ∧
    w.cell? ⟨g, i * 3, none⟩ = some (.int .i64 x.l) ∧ w.cell? ⟨g, i * 3 + 1, none⟩ = some (.int .i64 x.n) ∧ w.cell? ⟨g, i * 3 + 2, none⟩ = some (.int .i64 x.c) := by
  have hi : i < E.length := (List.getElem?_eq_some_iff.1 hx).1
  rcases h.2 with ⟨_, h2⟩ | ⟨g, cap, cur, hv, hb, hh, hc, _⟩
  · omega
  · cases hv
    have hl := Has.lt (show Has w g 74 cur from hh)
    obtain ⟨e0, e1, e2⟩ := E_at E i x hx
    refine ⟨g, hb, hl, rfl, hc, ?_, ?_, ?_⟩
    · rw [h.cellAt _ (by omega)]; exact e0
    · rw [h.cellAt _ (by omega)]; exact e1
    · rw [h.cellAt _ (by omega)]; exact e2

def ints (xs : List Int) : List Value := xs.map (Value.int .i64)

theorem btw_any (g b : Nat) (s : GS) (w : World) (H : Gr w g b s) (n m : Int) :
    Calls Try.prog 29 #[.pointer (some ⟨g, 0, none⟩), .int .i64 n, .int .i64 m] w (Gives w 3 1 (s.btw n m).length (ints (s.btw n m))) := by
  have HH := Lib.hid H
  have hm := H.ok.m128
  obtain ⟨j0, hj0, hz0, hz1, hz2⟩ := info_parts info_int
  have hle : (s.neigh n).length ≤ 128 := Nat.le_trans (nbr_len _ _ _) hm
  obtain ⟨E, hE⟩ : ∃ E, s.neigh n = E := ⟨_, rfl⟩
  have HE := Lib.hid hE
  rw [hE] at hle
  obtain ⟨q, hq⟩ : ∃ q, E.length = q := ⟨_, rfl⟩
  have HQ := Lib.hid hq
  rw [hq] at hle
  clear hE H hq
  go_enter Try.func29, Try.ntmps29
  go_wp2_with (go_at_call 28; refine (neigh_any _ _ _ _ HH.out _).mono ?_; rintro e w1 ⟨A1, c1, rfl, h2, h3⟩; rw [HE.out, HQ.out] at h2 ⊢; have H2 := Lib.hid h2; have H3 := Lib.hid h3; clear h2 h3)
  go_loopw [7, 14] (fun v i wr => ∃ (k p : Nat) (A7 : Option Addr) (c7 : Nat), k ≤ q ∧ i = .int .i64 k ∧ Hid (p = (btwOf (E.take k) m).length) ∧ p ≤ k ∧ v = .slice A7 p c7 ∧ wr.ownsRow w1.heap.size 3 1 (.slice A7 p c7) p (ints (btwOf (E.take k) m)) ∧ Below w1.heap.size w1 wr) (fun _ i _ => q - (intOf i).toNat)
  case atStart => exact ⟨0, 0, none, 0, Nat.zero_le _, rfl, Lib.hid rfl, Nat.le_refl _, rfl, World.ownsRow_nil _ _ _ _, Below.refl _ _⟩
  case round =>
    obtain ⟨k, p, A7, c7, hk, rfl, HP, hpk, rfl, hown, hb⟩ := hrel
    by_cases hlt : k < q
    · obtain ⟨x, hx⟩ : ∃ x, E[k]? = some x := ⟨E[k]'(by rw [HQ.out]; exact hlt), by simp [HQ.out, hlt]⟩
      obtain ⟨g1, hg1, hg2, rfl, hc1, q0, q1, q2⟩ := own_E H2.out HQ.out.symm hx
      have q0 := (hb.cell (p := ⟨g1, k * 3, none⟩) hg2).trans q0
      have q1 := (hb.cell (p := ⟨g1, k * 3 + 1, none⟩) hg2).trans q1
      have q2 := (hb.cell (p := ⟨g1, k * 3 + 2, none⟩) hg2).trans q2
      have hkl : (k : Int) < (q : Int) := by omega
      have HT : Hid (btwOf (E.take (k + 1)) m = btwOf (E.take k) m ++ (if x.n = m then [x.l] else [])) := Lib.hid (by rw [List.take_add_one, hx]; exact btwOf_snoc _ _ _)
      have HO1 := Lib.hid (hown.alloc (.cells #[.int .i64 x.l, .int .i64 x.n, .int .i64 x.c] 74))
      have HB1 := Lib.hid (hb.alloc hb.size (.cells #[.int .i64 x.l, .int .i64 x.n, .int .i64 x.c] 74))
      have hv := Has.new wr 74 #[.int .i64 x.l, .int .i64 x.n, .int .i64 x.c]
      have v0 : (wr.alloc (.cells #[.int .i64 x.l, .int .i64 x.n, .int .i64 x.c] 74)).cell? ⟨wr.heap.size, 0, none⟩ = some (.int .i64 x.l) := hv.cell 0
      have v1 : (wr.alloc (.cells #[.int .i64 x.l, .int .i64 x.n, .int .i64 x.c] 74)).cell? ⟨wr.heap.size, 1, none⟩ = some (.int .i64 x.n) := hv.cell 1
      clear hown hb hx hv hg1 hg2
      go_upto_region 5 with fail
      generalize wr.alloc (.cells #[.int .i64 x.l, .int .i64 x.n, .int .i64 x.c] 74) = W1 at *
      by_cases ha : x.n = m
      · have hbb : (x.n == m) = true := by simp [ha]
        have HS : Hid (btwOf (E.take (k + 1)) m = btwOf (E.take k) m ++ [x.l]) := Lib.hid (by rw [HT.out, if_pos ha])
        clear ha HT
        go_wp2_with (at_builtin; refine wpList_append_own _ rfl _ _ 58 rfl w1.heap.size 3 j0 (.int .i64 0) 1 8 Try.underlying58 hj0 hz0 hz1 hz2 rfl (by decide) _ _ _ rfl (HO1.out.alloc _) ⟨W1.heap.size, 0, none⟩ 1 1 [.int .i64 x.l] rfl rfl (laid_block W1 _ _) (by simp [Value.oneCell']) (by unfold maxLen; omega) (by omega) (by have := HB1.out.size; simp; omega) ?_)
        intro v' w2 hown hgrow hnil
        obtain ⟨A', c', rfl, _⟩ := own_form hown
        have HO2 := Lib.hid hown
        have HB2 : Hid (Below w1.heap.size w1 w2) := Lib.hid (grown_below (HB1.out.alloc HB1.out.size _) hgrow (fun r hr => (HO1.out.lt r hr).1) (by have := HB1.out.size; simp; omega))
        clear hown hgrow hnil
        go_wp2_with fail
        go_roundw
        case rel => exact ⟨k + 1, p + 1, A', c', by omega, by go_num, Lib.hid (by rw [HS.out, List.length_append, ← HP.out]; rfl), by omega, rfl, by rw [HS.out]; simp only [ints, List.map_append]; exact HO2.out, HB2.out⟩
        case measure => simp [intOf]; omega
      · have hbb : (x.n == m) = false := by simp [ha]
        have HS : Hid (btwOf (E.take (k + 1)) m = btwOf (E.take k) m) := Lib.hid (by rw [HT.out, if_neg ha, List.append_nil])
        clear ha HT
        go_wp2_with fail
        go_roundw
        case rel => exact ⟨k + 1, p, A7, c7, by omega, by go_num, Lib.hid (by rw [HS.out]; exact HP.out), by omega, rfl, by rw [HS.out]; exact HO1.out, HB1.out⟩
        case measure => simp [intOf]; omega
    · obtain rfl : k = q := by omega
      have HO := Lib.hid hown
      have HB := Lib.hid hb
      have HF : Hid (s.btw n m = btwOf (E.take k) m) := Lib.hid (by unfold GS.btw; rw [HE.out, List.take_of_length_le (by rw [HQ.out]; exact Nat.le_refl _)])
      clear hown hb
      go_wp2_with fail
      go_ret
      refine ⟨A7, c7, ?_, ?_, H3.out.trans (HB.out.mono H3.out.size)⟩
      · rw [HF.out, ← HP.out]; rfl
      · rw [HF.out, ← HP.out]; exact HO.out.mono H3.out.size

end Go.Proofs.Ytfmjcjkifjndgaa
