/- Graphs, the document's side: Components. -/
import Derived.Test.YtfmjcjkifjndgaaRfC
namespace Go.Proofs.Ytfmjcjkifjndgaa
open Go.RowKit
set_option linter.unusedVariables false
set_option linter.unusedSimpArgs false
set_option maxRecDepth 100000

theorem comp_sorted (s : GS) (k : Nat) : (s.comp k).Pairwise (· < ·) := by
  unfold GS.comp
  exact List.Pairwise.filter _ List.pairwise_lt_range
theorem comp_least {s : GS} {k m : Nat} {l : List Nat} (h : s.comp k = m :: l) {x : Nat} (hx : x ∈ s.comp k) : m ≤ x := by
  have hs := comp_sorted s k
  rw [h] at hs hx
  rcases List.mem_cons.1 hx with rfl | hx
  · exact Nat.le_refl _
  · exact Nat.le_of_lt ((List.pairwise_cons.1 hs).1 x hx)
/-- A node speaks for its component just if it is the first there. -/
theorem rep_first {s : GS} (ok : s.ok) {k m : Nat} {l : List Nat} (h : s.comp k = m :: l) : s.isRep k = decide ((m : Int) = (k : Int)) := by
  have hm : Rch s k m := (mem_comp ok).1 (by rw [h]; simp)
  have hal := hm.al.1
  by_cases e : m = k
  · subst e
    simp only [decide_true]
    rw [rep_iff]
    refine ⟨hal, fun x hx hr => ?_⟩
    have := comp_least h ((mem_comp ok).2 hr)
    omega
  · have : decide ((m : Int) = (k : Int)) = false := by simp; omega
    rw [this, ← Bool.not_eq_true, rep_iff]
    rintro ⟨_, h2⟩
    have := comp_least h ((mem_comp ok).2 (.here hal))
    exact h2 m (by omega) hm
theorem rep_none {s : GS} (ok : s.ok) {k : Nat} (h : s.comp k = []) : s.isRep k = false := by
  rw [← Bool.not_eq_true, rep_iff]
  rintro ⟨hal, _⟩
  have := (mem_comp ok).2 (.here hal)
  rw [h] at this
  cases this

set_option maxHeartbeats 4000000 in
theorem rcomps_any (r : Nat) (s : GS) (w : World) (H : Rf w r s) :
    Calls Try.prog 47 #[.pointer (some ⟨r, 0, none⟩)] w (GivesR w s.comps) := by
  have hok := H.ok
  have HH := Lib.hid H
  have HOK := Lib.hid hok
  have hrl := H.lt
  have hN := hok.n32
  obtain ⟨A1, c1, A2, c2, A3, c3, h⟩ := H
  have y0 : w.cell? ⟨r, 0, none⟩ = some (.int .i64 s.N) := h.blk.cell 0
  have HY0 := Lib.hid y0
  clear h y0 hok
  go_enter Try.func47, Try.ntmps47
  go_wp2_with fail
  go_loopw [3, 4] (fun v i wr => ∃ (k p : Nat) (A3 : Option Addr) (c3 : Nat), k ≤ s.N ∧ i = .int .i64 k ∧ v = .slice A3 p c3 ∧ p ≤ k ∧ Rws wr w.heap.size A3 p c3 (cmpsTo s k) ∧ Below w.heap.size w wr) (fun _ i _ => s.N - (intOf i).toNat)
  case atStart => exact ⟨0, 0, none, 0, Nat.zero_le _, rfl, rfl, Nat.le_refl _, ⟨[], rfl, rfl, World.ownsRow_nil _ _ _ _, by simp, by simp⟩, Below.refl _ _⟩
  case round =>
    obtain ⟨k, p, A3, c3, hk, rfl, rfl, hpk, hRw, hb⟩ := hrel
    have y0 : wr.cell? ⟨r, 0, none⟩ = some (.int .i64 s.N) := (hb.cell (p := ⟨r, 0, none⟩) hrl).trans HY0.out
    have HRw := Lib.hid hRw
    have HB := Lib.hid hb
    by_cases hlt : k < s.N
    · have hkN : (k : Int) < (s.N : Int) := by omega
      have HG := Lib.hid (HH.out.below hb)
      have HS := Lib.hid (cmps_succ s k)
      clear hRw hb
      go_wp2_with fail
      refine (rcomp_any r s wr HG.out k).mono ?_
      rintro e w5 ⟨A5, c5, rfl, h5, hb5⟩
      rw [compI_nat] at h5 ⊢
      have HB5 := Lib.hid hb5
      have hc32 := comp_len s k
      cases hcm : s.comp k with
      | nil =>
        have HRep := Lib.hid (rep_none HOK.out hcm)
        have HRw5 : Hid (Rws w5 w.heap.size A3 p c3 (cmpsTo s (k + 1))) := Lib.hid (by
          rw [HS.out, HRep.out]
          simp only [Bool.false_eq_true, if_false, List.append_nil]
          exact HRw.out.keep fun g t cur _ h => h.below HB5.out)
        have HBl5 := Lib.hid (HB.out.trans (hb5.mono HB.out.size))
        clear h5 hb5 hcm
        simp only [List.length_nil]
        go_wp2_with fail
        go_roundw
        case rel => exact ⟨k + 1, p, A3, c3, by omega, by go_num, rfl, by omega, HRw5.out, HBl5.out⟩
        case measure => simp [intOf]; omega
      | cons m l =>
        have HRep := Lib.hid (rep_first HOK.out hcm)
        obtain ⟨n5, hn⟩ : ∃ n5, (m :: l).length = n5 := ⟨_, rfl⟩
        have hn5 : 0 < n5 := by rw [← hn]; simp
        have HCm := Lib.hid hcm
        rw [hcm, hn] at hc32
        rw [hcm, hn] at h5
        have HN5 := Lib.hid hn
        obtain ⟨e5, rfl, hge5, hrow5⟩ := RowN.of_own h5 hn.symm hn5
        clear h5
        rw [hn]
        have q0 : w5.cell? ⟨e5, 0, none⟩ = some (.int .i64 (m : Int)) := hrow5.at_ (j := 0) rfl
        have hnc : n5 ≤ c5 := by obtain ⟨_, _, _, _, h9, _⟩ := hrow5; rw [hn] at h9; exact h9
        have hn5I : decide ((0 : Int) < (n5 : Int)) = true := by simp; omega
        have HRow5 := Lib.hid hrow5
        have HRw5 : Hid (Rws w5 w.heap.size A3 p c3 (cmpsTo s k)) := Lib.hid (HRw.out.keep fun g t cur _ h => h.below HB5.out)
        have HBl5 := Lib.hid (HB.out.trans (hb5.mono HB.out.size))
        have hsz : wr.heap.size ≤ e5 := hge5
        have hsz0 : w.heap.size ≤ wr.heap.size := HB.out.size
        have HR6 : Hid (∀ R, RwsR wr w.heap.size A3 p c3 R → ∀ r ∈ R, r.1 < e5) := Lib.hid (fun R hR r hr => by
          obtain ⟨_, cur, hh, _⟩ := hR.2.2.1 r hr
          exact Nat.lt_of_lt_of_le hh.lt hsz)
        clear hrow5 hb5 hcm hn
        by_cases hmk : m = k
        · have he : ((m : Int) == (k : Int)) = true := by simp [hmk]
          obtain ⟨R, hR1, hRR⟩ := HRw.out
          obtain ⟨hR2, hR3, hR4, hR5⟩ := (hRR.keep fun g t cur _ h => h.below HB5.out : RwsR w5 w.heap.size A3 p c3 R)
          have hR6 := HR6.out R hRR
          obtain ⟨i0, hi0, hz0, hz1, hz2⟩ := info_parts info_ints
          have HR3 := Lib.hid hR3
          have HR4 := Lib.hid hR4
          have HR5 := Lib.hid hR5
          have HR1 := Lib.hid hR1
          have HR2 := Lib.hid hR2
          have HR6 := Lib.hid hR6
          have HMk := Lib.hid hmk
          clear hR3 hR4 hR5 hR1 hR2 hR6 hRR hmk
          go_wp2_with (at_builtin; refine wpList_append_own _ rfl _ _ 61 rfl w.heap.size 58 i0 (.slice none 0 0) 1 24 Try.underlying61 hi0 hz0 hz1 hz2 rfl (by decide) _ _ _ rfl (HR3.out.alloc _) ⟨w5.heap.size, 0, none⟩ 1 1 [.slice (some ⟨e5, 0, none⟩) n5 c5] rfl rfl (laid_block w5 _ _) (by simp [Value.oneCell']) (by unfold maxLen; omega) (by omega) (by have := HBl5.out.size; simp; omega) ?_)
          intro v' w7 hown hgrow hnil
          obtain ⟨A', c', rfl, _⟩ := own_form hown
          have HO7 := Lib.hid hown
          have HG7 := Lib.hid hgrow
          clear hown hgrow hnil
          have hba : Below w5.heap.size w5 (w5.alloc (.cells #[.slice (some ⟨e5, 0, none⟩) n5 c5] 58)) := (Below.refl _ _).alloc (Nat.le_refl _) _
          have hk7 : ∀ (g : Nat) (t : TypeId) (cur : Array Value), t ≠ 58 → Has w5 g t cur → Has w7 g t cur := fun g t cur ht h => (h.below hba).grown HG7.out (fun e => own_not (h.below hba) ht (HR3.out.alloc _) e.symm)
          have HB7 : Hid (Below w.heap.size w w7) := Lib.hid (grown_below (HBl5.out.alloc HBl5.out.size _) HG7.out (fun r hr => (HR3.out.lt r hr).1) (by have := HBl5.out.size; simp; omega))
          have HRw7 : Hid (Rws w7 w.heap.size A' (p + 1) c' (cmpsTo s (k + 1))) := by
            refine Lib.hid ⟨R ++ [(e5, c5, s.comp k)], ?_, by simp [HR2.out], ?_, ?_, ?_⟩
            · have : decide ((m : Int) = (k : Int)) = true := by simp [HMk.out]
              rw [HS.out, HRep.out, this, List.map_append, HR1.out]; simp
            · rw [List.map_append]
              simp only [List.map_cons, List.map_nil, cellR, HCm.out, HN5.out]
              exact HO7.out
            · intro r hr
              rw [List.mem_append, List.mem_singleton] at hr
              rcases hr with hr | rfl
              · exact ⟨(HR4.out r hr).1, (HR4.out r hr).2.keep fun cur => hk7 _ _ _ (by decide)⟩
              · refine ⟨by show w.heap.size ≤ e5; omega, ?_⟩
                have h9 := HRow5.out.keep (w' := w7) fun cur => hk7 _ _ _ (by decide)
                rw [← HCm.out] at h9
                exact h9
            · rw [List.map_append, List.pairwise_append]
              refine ⟨HR5.out, by simp, fun a ha b hb => ?_⟩
              simp at hb
              subst hb
              obtain ⟨r, hr, rfl⟩ := List.mem_map.1 ha
              exact HR6.out r hr
          clear hba hk7
          go_wp2_with fail
          go_roundw
          case rel => exact ⟨k + 1, p + 1, A', c', by omega, by go_num, rfl, by omega, HRw7.out, HB7.out⟩
          case measure => simp [intOf]; omega
        · have he : ((m : Int) == (k : Int)) = false := by simp; omega
          have HRw6 : Hid (Rws w5 w.heap.size A3 p c3 (cmpsTo s (k + 1))) := Lib.hid (by
            have : decide ((m : Int) = (k : Int)) = false := by simp; omega
            rw [HS.out, HRep.out, this]
            simp only [Bool.false_eq_true, if_false, List.append_nil]
            exact HRw5.out)
          clear hmk
          go_wp2_with fail
          go_roundw
          case rel => exact ⟨k + 1, p, A3, c3, by omega, by go_num, rfl, by omega, HRw6.out, HBl5.out⟩
          case measure => simp [intOf]; omega
    · obtain rfl : k = s.N := by omega
      have hp := hRw.lt
      have HP := Lib.hid hp
      clear hRw hb hp
      go_wp2_with fail
      go_ret
      refine ⟨A3, c3, ?_, ?_, HB.out⟩
      · rw [show s.comps.length = p from HP.out.symm]; rfl
      · rw [show s.comps.length = p from HP.out.symm]; exact HRw.out

end Go.Proofs.Ytfmjcjkifjndgaa
