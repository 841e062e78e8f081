/- WireWrites: the document's own writer: marks. -/
import Derived.Test.YtbaikpfibojdnaaWwC
namespace Go.Proofs.Ytbaikpfibojdnaa
open Go.RowKit
set_option linter.unusedVariables false
set_option maxRecDepth 100000

theorem put_two (s : WS) : s.put 0 2 = if s.lim - s.out.length < 2 then (7, s) else (0, { s with out := s.out ++ List.replicate 2 0 }) := by
  unfold WS.put
  rw [if_neg (by decide)]
  rfl

/-- append of one number to a row of numbers, as one equation. -/
theorem run_mark (w : World) (v : Value) (n : Nat) (olds : List Value) (hown : w.ownsRow 0 3 1 v n olds) (x : Int) (hn : n + 1 ≤ 2000000) (ty : TypeId) :
    ∃ A c w1, (Builtin.append_ #[39, 39] ty #[v, .slice (some ⟨w.heap.size, 0, none⟩) 1 1]).run Try.prog (w.alloc (.cells #[.int .i64 x] 3)) = .ok (.slice A (n + 1) c) w1 ∧ w1.ownsRow 0 3 1 (.slice A (n + 1) c) (n + 1) (olds ++ [.int .i64 x]) ∧ (w.alloc (.cells #[.int .i64 x] 3)).grownBy w1 v.ownBlock ∧
      (v.ownBlock = (Value.slice A (n + 1) c).ownBlock ∨ ∃ g, (Value.slice A (n + 1) c).ownBlock = some g ∧ w.heap.size ≤ g) := by
  obtain ⟨i0, hi, hz0, hz1, hz2⟩ := info_parts info_int
  obtain ⟨v', w1, hr, h2, h3, _, h5⟩ := Go.run_append_own_at (P := Try.prog) (w.alloc (.cells #[.int .i64 x] 3)) 0 39 ty 3 i0 (.int .i64 0) 1 8 Try.underlying39 hi hz0 hz1 hz2 rfl (by decide) v n olds (hown.alloc _) ⟨w.heap.size, 0, none⟩ 1 1 [.int .i64 x] rfl news_block (by simp [Value.oneCell']) (by unfold maxLen; omega) (by omega) (Nat.zero_le _)
  obtain ⟨A, c, rfl, _⟩ := ow_form h2
  exact ⟨A, c, w1, hr, h2, h3, h5.imp (fun h => h.symm) (fun h => ⟨_, h, by simp⟩)⟩

/-- The marks turned: what stands behind it. -/
theorem Rw.turnM {w w1 : World} {o : Nat} {v m m' : Value} {s : WS} {ms : List Int} (H : Rw w o v m s) (ho : ∀ k ∈ ms, 0 ≤ k ∧ k + 2 ≤ (s.out.length : Int)) (ha : ms.Pairwise (· < ·))
    {t : List Nat} (hg : Turn t w w1) (h1 : o ∉ t) (h2 : ∀ g, v.ownBlock = some g → g ∉ t) (hm : w1.ownsRow 0 3 1 m' ms.length (ms.map (Value.int .i64))) :
    Rw (w1.setCell ⟨o, 2, none⟩ m') o v m' { s with marks := ms } ∧ Turn (o :: t) w (w1.setCell ⟨o, 2, none⟩ m') := by
  have hb1 := H.blk.turn hg h1
  have hv1 := ow_turn H.out hg h2
  have hb2 := hb1.set_ 2 m'
  have t1 : Turn [o] w1 (w1.setCell ⟨o, 2, none⟩ m') := turn_only (only_set (only_refl w1 o) (.inl rfl) m')
  have h3 : m'.ownBlock ≠ some o := ow_has hm hb1 (by decide)
  have h4 : v.ownBlock ≠ some o := ow_has hv1 hb1 (by decide)
  refine ⟨⟨by simpa using hb2, ?_, ?_, H.room, H.top, H.byte, ho, ha⟩, ?_⟩
  · exact ow_turn hv1 t1 (fun g hg' => by simp; rintro rfl; exact h4 hg')
  · exact ow_turn hm t1 (fun g hg' => by simp; rintro rfl; exact h3 hg')
  · exact (hg.mono (fun k hk => .inl (by simp [hk]))).set_ (.inl (by simp)) _

set_option maxHeartbeats 2000000 in
theorem pmark (o : Nat) (l : List Nat) (s : WS) (w : World) (H : RwL w l o s) :
    Calls Try.prog 22 #[.pointer (some ⟨o, 0, none⟩)] w fun e w' => e = .returned (.tuple #[.int .i64 s.mark.1, .int .i64 s.mark.2.1]) ∧ ∃ l', RwL w' l' o s.mark.2.2 ∧ Next w l w' l' := by
  have HL := Lib.hid H
  obtain ⟨v, m, rfl, hw⟩ := H
  obtain ⟨A, c, hv, hnc, hcm, hnil, hsome⟩ := ow_form hw.out
  subst hv
  have d0 := hw.c0
  have hroom := hw.room
  have htop := hw.top
  have HO := Lib.hid hw.open_
  have HAs := Lib.hid hw.asc
  clear hw hnc hcm hnil hsome
  have hput := pput o _ s w HL.out 0 (by omega) (by omega) 2 (by omega) (by omega)
  rw [put_two] at hput
  by_cases hf : s.lim - s.out.length < 2
  · have e : Hid (s.mark = (0, 7, s)) := Lib.hid (by unfold WS.mark; rw [if_pos hf])
    rw [if_pos hf] at hput
    clear hf
    go_enter Try.func22, Try.ntmps22
    go_wp2_with fail
    refine hput.mono ?_
    rintro e1 w1 ⟨rfl, l1, hw1, hn1⟩
    have HW1 := Lib.hid hw1
    have HN1 := Lib.hid hn1
    clear hw1 hn1
    go_wp2_with fail
    go_ret2
    rw [e.out]
    exact ⟨rfl, l1, HW1.out, HN1.out⟩
  · have e : Hid (s.mark = ((s.out.length : Int), 0, { s with out := s.out ++ List.replicate 2 0, marks := s.marks ++ [(s.out.length : Int)] })) := Lib.hid (by unfold WS.mark; rw [if_neg hf])
    rw [if_neg hf] at hput
    have HF : Hid (2 ≤ s.lim - s.out.length) := Lib.hid (by omega)
    clear hf
    go_enter Try.func22, Try.ntmps22
    go_wp2_with fail
    refine hput.mono ?_
    rintro e1 w1 ⟨rfl, l1, ⟨v1, m1, rfl, hw1⟩, hn1⟩
    obtain ⟨A2, c2, w2, hrun, hown, hgrow, hloc⟩ := run_mark w1 _ _ _ hw1.mks (s.out.length : Int) (by
      have h1 : s.marks.length ≤ s.out.length := by
        have key : ∀ (L : List Int), L.Pairwise (· < ·) → (∀ k ∈ L, 0 ≤ k ∧ k + 2 ≤ (s.out.length : Int)) → ∀ b : Int, 0 ≤ b → (∀ k ∈ L, b ≤ k) → b + L.length ≤ (max (s.out.length : Int) b) := by
          intro L
          induction L with
          | nil => intro _ _ b _ _; simp; omega
          | cons x L ih =>
            intro hp hb b hb0 hk
            have hx := hb x (by simp)
            have hbx := hk x (by simp)
            have := ih (List.Pairwise.of_cons hp) (fun k hk' => hb k (by simp [hk'])) (x + 1) (by omega) (fun k hk' => by
              have := List.rel_of_pairwise_cons hp hk'
              omega)
            simp only [List.length_cons]
            omega
        have := key s.marks HAs.out HO.out 0 (Int.le_refl _) (fun k hk => (HO.out k hk).1)
        omega
      show s.marks.length + 1 ≤ 2000000
      omega) 39
    have hx1 : s.marks.length + 1 = (s.marks ++ [(s.out.length : Int)]).length := by simp
    have hb0 : Below w1.heap.size w1 (w1.alloc (.cells #[.int .i64 (s.out.length : Int)] 3)) := (Below.refl _ w1).alloc (Nat.le_refl _) _
    have hA := hw1.below hb0
    have hh := hA.stillM hgrow
    have q0 := hw1.c2
    have q1 := hA.c2
    have k0 := hh.cell 2
    have k1 := hh.free 2
    simp only [List.getElem?_toArray, List.getElem?_cons_zero, List.getElem?_cons_succ] at k0
    have hfin := hA.turnM (ms := s.marks ++ [(s.out.length : Int)]) (m' := .slice A2 (s.marks.length + 1) c2) (by
      intro k hk
      simp only [List.mem_append, List.mem_singleton] at hk
      simp
      rcases hk with hk | rfl
      · have := HO.out k hk; omega
      · omega) (by
      rw [List.pairwise_append]
      refine ⟨HAs.out, by simp, ?_⟩
      intro a ha b hb
      simp only [List.mem_singleton] at hb
      have := HO.out a ha
      omega) (turn_grown hgrow) (by
      simp only [Option.mem_toList]
      intro h
      exact ow_has hA.mks hA.blk (by decide) h) (by
      intro g hg
      simp only [Option.mem_toList]
      exact ow_ne hA.out hA.mks (by decide) g hg) (by rw [← hx1]; simpa using hown)
    obtain ⟨A1, c1, hm1, _⟩ := ow_form hw1.mks
    subst hm1
    have HFin := Lib.hid hfin.1
    have HT : Hid (Next w (rwl o (.slice A s.out.length c) m) (w2.setCell ⟨o, 2, none⟩ (.slice A2 (s.marks.length + 1) c2)) (rwl o v1 (.slice A2 (s.marks.length + 1) c2))) := Lib.hid (hn1.trans ⟨((turn_below hb0 _).trans (hfin.2.mono (fun k hk => .inl (by
        simp only [rwl, List.mem_cons, List.mem_append] at hk ⊢
        rcases hk with hk | hk
        · exact .inl hk
        · exact .inr (.inr hk))))), fun k hk => by
      simp only [rwl, List.mem_cons, List.mem_append, Option.mem_toList] at hk ⊢
      rcases hk with hk | hk | hk
      · exact .inl (.inl hk)
      · exact .inl (.inr (.inl hk))
      · rcases hloc with h | ⟨g, h, hg⟩
        · exact .inl (.inr (.inr (h.trans hk)))
        · rw [h] at hk
          injection hk with hk
          exact .inr (hk ▸ hg)⟩)
    have HR := Lib.hid hrun
    clear hh hfin hloc hrun hown hgrow hA hw1 hn1 hx1 hb0 hput
    go_wp2_with (at_builtin; refine Lib.wpList_append_run _ rfl _ _ _ _ rfl _ _ rfl rfl _ _ HR.out ?_)
    go_ret2
    rw [e.out]
    exact ⟨rfl, _, ⟨_, _, rfl, HFin.out⟩, HT.out⟩

end Go.Proofs.Ytbaikpfibojdnaa
