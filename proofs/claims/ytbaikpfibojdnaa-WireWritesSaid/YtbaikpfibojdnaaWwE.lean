/- WireWrites: the document's own writer: lengths patched. -/
import Derived.Test.YtbaikpfibojdnaaWwD
import Derived.BigRegion
import Derived.Deep.RegionLawGrows
namespace Go.Proofs.Ytbaikpfibojdnaa
open Go.RowKit
set_option linter.unusedVariables false
set_option maxRecDepth 100000

theorem ow_cell {w : World} {base : Nat} {e : TypeId} {A : Option Addr} {c n : Nat} {xs : List Value} (h : w.ownsRow base e 1 (.slice A n c) n xs) (j : Nat) (hj : j < n) : ∃ g, A = some ⟨g, 0, none⟩ ∧ n ≤ c ∧ c ≤ maxLen ∧ (∀ i (hi : i < xs.length), w.cell? ⟨g, i, none⟩ = some xs[i]) ∧ (∀ i, w.frozen? ⟨g, i, none⟩ = false) ∧ g < w.heap.size := by
  rcases h.2 with ⟨_, h0⟩ | ⟨g, cap, cur, hv, hb, hh, hn, hc, hs, ht⟩
  · omega
  · injection hv with h1 h2 h3
    subst h1 h3
    have hh' : Has w g e cur := hh
    refine ⟨g, rfl, hn, hc, fun i hi => ?_, fun i => hh'.free i, hh'.lt⟩
    rw [hh'.cell i]
    subst ht
    simp only [List.length_take, Array.length_toList] at hi
    have hi2 : i < cur.size := by omega
    simp [hi2]

theorem filter_out {L : List Int} (hp : L.Pairwise (· < ·)) (j : Nat) (hj : j < L.length) : L.filter (fun k => decide (k ≠ L[j])) = L.take j ++ L.drop (j + 1) := by
  induction L generalizing j with
  | nil => simp at hj
  | cons x L ih =>
    have hlt : ∀ k ∈ L, x < k := fun k hk => List.rel_of_pairwise_cons hp hk
    cases j with
    | zero =>
      simp only [List.getElem_cons_zero, List.take_zero, List.nil_append, List.drop_succ_cons, List.drop_zero]
      rw [List.filter_cons_of_neg (by simp)]
      refine List.filter_eq_self.2 fun k hk => ?_
      have := hlt k hk
      simp; omega
    | succ j =>
      simp only [List.getElem_cons_succ, List.take_succ_cons, List.drop_succ_cons, List.cons_append]
      have hj' : j < L.length := by simpa using hj
      have := hlt L[j] (List.getElem_mem hj')
      rw [List.filter_cons_of_pos (by simp; omega), ih (List.Pairwise.of_cons hp) j hj']

theorem be_two (n : Int) (h0 : 0 ≤ n) (h1 : n ≤ 65534) : be n 2 = [n / 256, n % 256] := by
  simp only [be, Int.pow_zero, Int.pow_one, Int.ediv_one]
  congr 1
  omega

theorem ow_set {w : World} {base : Nat} {e : TypeId} {g n c : Nat} {xs : List Value} (h : w.ownsRow base e 1 (.slice (some ⟨g, 0, none⟩) n c) n xs) (i : Nat) (u : Value) :
    (w.setCell ⟨g, i, none⟩ u).ownsRow base e 1 (.slice (some ⟨g, 0, none⟩) n c) n (xs.set i u) := by
  rcases h.2 with ⟨h0, _⟩ | ⟨g', cap, cur, hv, hb, hh, hn, hc, hs, ht⟩
  · cases h0
  · injection hv with h1 _ h3
    injection h1 with h1
    injection h1 with h1
    subst h1 h3
    have hh' : Has w g e cur := hh
    refine ⟨by rw [List.length_set]; exact h.1, .inr ⟨g, c, _, rfl, hb, hh'.set_ i u, hn, hc, by simpa using hs, ?_⟩⟩
    rw [Array.toList_setIfInBounds, List.take_set, ht]

theorem Rw.few {w : World} {o : Nat} {v m : Value} {s : WS} (H : Rw w o v m s) : s.marks.length ≤ 1000000 := by
  have key : ∀ (L : List Int), L.Pairwise (· < ·) → (∀ k ∈ L, 0 ≤ k ∧ k + 2 ≤ (s.out.length : Int)) → ∀ b : Int, 0 ≤ b → (∀ k ∈ L, b ≤ k) → b + L.length ≤ (max (s.out.length : Int) b) := by
    intro L
    induction L with
    | nil => intro _ _ b _ _; simp; omega
    | cons x L ih =>
      intro hp hb b hb0 hk
      have hx := hb x (by simp)
      have hbx := hk x (by simp)
      have := ih (List.Pairwise.of_cons hp) (fun k hk' => hb k (by simp [hk'])) (x + 1) (by omega) (fun k hk' => by
        have := List.rel_of_pairwise_cons hp hk'
        omega)
      simp only [List.length_cons]
      omega
  have := key s.marks H.asc H.open_ 0 (Int.le_refl _) (fun k hk => (H.open_ k hk).1)
  have h1 := H.room
  have h2 := H.top
  omega

/-- The two bytes of a mark, written. -/
theorem Rw.patched {w : World} {o gb c a : Nat} {M : Value} {s : WS} {n : Int} (H : Rw w o (.slice (some ⟨gb, 0, none⟩) s.out.length c) M s) (ha : a + 2 ≤ s.out.length) (h0 : 0 ≤ n) (h1 : n ≤ 65534) :
    Rw ((w.setCell ⟨gb, a, none⟩ (.int .u8 (n / 256))).setCell ⟨gb, a + 1, none⟩ (.int .u8 (n % 256))).drew o (.slice (some ⟨gb, 0, none⟩) s.out.length c) M { s with out := s.out.take a ++ be n 2 ++ s.out.drop (a + 2) } ∧
    Turn [gb] w ((w.setCell ⟨gb, a, none⟩ (.int .u8 (n / 256))).setCell ⟨gb, a + 1, none⟩ (.int .u8 (n % 256))).drew := by
  have hT : Turn [gb] w ((w.setCell ⟨gb, a, none⟩ (.int .u8 (n / 256))).setCell ⟨gb, a + 1, none⟩ (.int .u8 (n % 256))).drew := (((Turn.refl [gb] w).set_ (p := ⟨gb, a, none⟩) (.inl (by simp)) _).set_ (p := ⟨gb, a + 1, none⟩) (.inl (by simp)) _).drew
  have hog : o ≠ gb := fun h => ow_has H.out H.blk (by decide) (by rw [h]; rfl)
  have hl : (s.out.take a ++ be n 2 ++ s.out.drop (a + 2)).length = s.out.length := by simp [be_length]; omega
  have hx := ow_set (ow_set H.out a (.int .u8 (n / 256))) (a + 1) (.int .u8 (n % 256))
  have hlist : ((u8s s.out).set a (.int .u8 (n / 256))).set (a + 1) (.int .u8 (n % 256)) = u8s (s.out.take a ++ be n 2 ++ s.out.drop (a + 2)) := by
    rw [be_two n h0 h1, u8s, ← List.map_set, ← List.map_set]
    congr 1
    have e1 : s.out = s.out.take a ++ (s.out[a]'(by omega) :: s.out[a + 1]'(by omega) :: s.out.drop (a + 2)) := by
      rw [List.getElem_cons_drop, List.getElem_cons_drop, List.take_append_drop]
    have hta : (s.out.take a).length = a := by simp; omega
    conv => lhs; rw [e1]
    rw [List.set_append_right _ _ (by omega), hta, Nat.sub_self, List.set_cons_zero, List.set_append_right _ _ (by omega), hta, show a + 1 - a = 1 by omega]
    simp
    rw [show s.out.drop (a + 1) = s.out[a + 1]'(by omega) :: s.out.drop (a + 2) from (List.getElem_cons_drop _).symm]
    rfl
  rw [hlist] at hx
  refine ⟨⟨?_, ?_, ow_turn H.mks hT (fun g hg => by
      simp only [List.mem_singleton]
      rintro rfl
      exact ow_ne H.mks H.out (by decide) g hg rfl), by rw [hl]; exact H.room, H.top, ?_, by rw [hl]; exact H.open_, H.asc⟩, hT⟩
  · exact H.blk.turn hT (by simpa using hog)
  · rw [hl]; exact hx
  · intro x hx
    simp only [List.mem_append] at hx
    rcases hx with (hx | hx) | hx
    · exact H.byte x (List.mem_of_mem_take hx)
    · exact be_byte _ _ x hx
    · exact H.byte x (List.mem_of_mem_drop hx)

theorem step_run {P : Program} {ops : Array Oper} {o : Oper} {a : Act} (w : World) {K : Act → World → Prop} {Q : Exit → Act → World → Prop} {E : Prop} (hgd : o.guard = none) (s x : Operand) (t tn : TypeId)
    (ho : o.op = .call { callee := .builtin .append, args := #[s, x], argTypes := #[t, tn] }) (vs vx : Value) (hs : a.eval s = vs) (hx : a.eval x = vx)
    (v' : Value) (w' : World) (hr : (Builtin.append_ #[t, tn] o.type #[vs, vx]).run P w = .ok v' w') (h : K (a.put o.dst v') w') : if Region.wanted o (yielded ops a.tmps) = true then Oper.wp P o a w K Q else E := by
  have hw : Region.wanted o (yielded ops a.tmps) = true := by simp [Region.wanted, hgd]
  rw [if_pos hw]
  exact Lib.wp_append_run w s x t tn ho vs vx hs hx v' w' hr h

/-- The first append of the removal, as a step of a region. -/
theorem Rw.stepA {W : World} {o gm c1 j : Nat} {v : Value} {s : WS} (H : Rw W o v (.slice (some ⟨gm, 0, none⟩) s.marks.length c1) s) (hj : j < s.marks.length) (hm : s.marks.length ≤ 1000000)
    {ops : Array Oper} {oo : Oper} {a : Act} {K : Act → World → Prop} {Q : Exit → Act → World → Prop} {E : Prop} (hgd : oo.guard = none) (x y : Operand)
    (ho : oo.op = .call { callee := .builtin .append, args := #[x, y], argTypes := #[39, 39] })
    (hs : a.eval x = .slice (some ⟨W.heap.size, 0, none⟩) 0 0) (hy : a.eval y = .slice (some ⟨gm, 0, none⟩) j c1)
    (h : ∀ A2 c2 w2, w2.cell? ⟨o, 2, none⟩ = some (.slice (some ⟨gm, 0, none⟩) s.marks.length c1) → Hid (w2.ownsRow W.heap.size 3 1 (.slice A2 j c2) j ((s.marks.take j).map (Value.int .i64)) ∧ Below W.heap.size W w2) →
      K (a.put oo.dst (.slice A2 j c2)) w2) :
    if Region.wanted oo (yielded ops a.tmps) = true then Oper.wp Try.prog oo a (W.alloc (.cells #[] 3)).drew K Q else E := by
  obtain ⟨i0, hi, hz0, hz1, hz2⟩ := info_parts info_int
  have hb0 : Below W.heap.size W (W.alloc (.cells #[] 3)).drew := ⟨rfl, rfl, rfl, by simp, fun i hi => Below.heap_alloc W _ i hi⟩
  have hnew : (W.alloc (.cells #[] 3)).drew.ownsRow W.heap.size 3 1 (.slice (some ⟨W.heap.size, 0, none⟩) 0 0) 0 [] := World.ownsRow_lit W #[] 0 (Nat.le_refl _) (by unfold maxLen; omega) rfl
  obtain ⟨g, hg, _, _, hcell, _, hgl⟩ := ow_cell H.mks j hj
  injection hg with hg
  injection hg with hg
  subst hg
  have hnews : ∀ i u, ((s.marks.take j).map (Value.int .i64))[i]? = some u → (W.alloc (.cells #[] 3)).drew.cell? ((⟨gm, 0, none⟩ : Addr).add i) = some u := by
    intro i u hu
    obtain ⟨hi', rfl⟩ := List.getElem?_eq_some_iff.1 hu
    simp only [List.length_map, List.length_take] at hi'
    have := (hb0.cell (p := ⟨gm, i, none⟩) hgl).trans (hcell i (by simp; omega))
    rw [Addr.add_lit, Nat.zero_add]
    simpa using this
  obtain ⟨v', w2, hr, h2, h3, _, _⟩ := Go.run_append_own_at (P := Try.prog) (W.alloc (.cells #[] 3)).drew W.heap.size 39 oo.type 3 i0 (.int .i64 0) 1 8 Try.underlying39 hi hz0 hz1 hz2 rfl (by decide) _ 0 [] hnew ⟨gm, 0, none⟩ j c1 ((s.marks.take j).map (Value.int .i64)) (by simp; omega) hnews (by
    intro u hu
    obtain ⟨x, _, rfl⟩ := List.mem_map.1 hu
    rfl) (by unfold maxLen; omega) (by omega) (by simp)
  rw [Nat.zero_add, List.nil_append] at h2
  obtain ⟨A2, c2, rfl, _⟩ := ow_form h2
  have hb1 : Below W.heap.size W w2 := hb0.grown h3 (by simp) (fun k hk => by cases hk; exact Nat.le_refl _)
  have hh := H.blk.below hb1
  refine step_run _ hgd x y _ _ ho _ _ hs hy _ _ hr ?_
  exact h A2 c2 w2 (hh.cell 2) (Lib.hid ⟨h2, hb1⟩)

/-- The second append. -/
theorem Rw.stepB {W w2 : World} {o gm c1 j : Nat} {v : Value} {s : WS} (H : Rw W o v (.slice (some ⟨gm, 0, none⟩) s.marks.length c1) s) (hj : j < s.marks.length) (hm : s.marks.length ≤ 1000000) {A2 : Option Addr} {c2 : Nat}
    (H2 : Hid (w2.ownsRow W.heap.size 3 1 (.slice A2 j c2) j ((s.marks.take j).map (Value.int .i64)) ∧ Below W.heap.size W w2))
    {ops : Array Oper} {oo : Oper} {a : Act} {K : Act → World → Prop} {Q : Exit → Act → World → Prop} {E : Prop} (hgd : oo.guard = none) (x y : Operand)
    (ho : oo.op = .call { callee := .builtin .append, args := #[x, y], argTypes := #[39, 39] }) (AD : Addr) (n3 c3 : Nat)
    (hs : a.eval x = .slice A2 j c2) (hy : a.eval y = .slice (some AD) n3 c3) (hn3 : n3 = s.marks.length - (j + 1)) (hAD : AD = ⟨gm, j + 1, none⟩ ∨ n3 = 0)
    (h : ∀ A3 c4 w3, w3.cell? ⟨o, 2, none⟩ = some (.slice (some ⟨gm, 0, none⟩) s.marks.length c1) → w3.frozen? ⟨o, 2, none⟩ = false → Hid (w3.ownsRow 0 3 1 (.slice A3 (j + n3) c4) (s.marks.take j ++ s.marks.drop (j + 1)).length ((s.marks.take j ++ s.marks.drop (j + 1)).map (Value.int .i64)) ∧ Below W.heap.size W w3 ∧ ∀ g, (Value.slice A3 (j + n3) c4).ownBlock = some g → W.heap.size ≤ g) →
      K (a.put oo.dst (.slice A3 (j + n3) c4)) w3) :
    if Region.wanted oo (yielded ops a.tmps) = true then Oper.wp Try.prog oo a w2 K Q else E := by
  obtain ⟨i0, hi, hz0, hz1, hz2⟩ := info_parts info_int
  obtain ⟨hown, hb⟩ := H2.out
  obtain ⟨g, hg, _, _, hcell, _, hgl⟩ := ow_cell H.mks j hj
  injection hg with hg
  injection hg with hg
  subst hg
  have hnews : ∀ i u, ((s.marks.drop (j + 1)).map (Value.int .i64))[i]? = some u → w2.cell? (AD.add i) = some u := by
    intro i u hu
    obtain ⟨hi', rfl⟩ := List.getElem?_eq_some_iff.1 hu
    simp only [List.length_map, List.length_drop] at hi'
    rcases hAD with rfl | h0
    · have := (hb.cell (p := ⟨gm, j + 1 + i, none⟩) hgl).trans (hcell (j + 1 + i) (by simp; omega))
      rw [Addr.add_lit]
      simpa using this
    · omega
  obtain ⟨v', w3, hr, h2, h3, _, _⟩ := Go.run_append_own_at (P := Try.prog) w2 W.heap.size 39 oo.type 3 i0 (.int .i64 0) 1 8 Try.underlying39 hi hz0 hz1 hz2 rfl (by decide) _ j _ hown AD n3 c3 ((s.marks.drop (j + 1)).map (Value.int .i64)) (by simp; omega) hnews (by
    intro u hu
    obtain ⟨x, _, rfl⟩ := List.mem_map.1 hu
    rfl) (by unfold maxLen; omega) (by omega) hb.size
  have hblk : ∀ g, v'.ownBlock = some g → W.heap.size ≤ g := fun g hg => (ow_block h2 g hg).1
  obtain ⟨A3, c4, rfl, _⟩ := ow_form h2
  have hb1 : Below W.heap.size W w3 := hb.grown h3 hb.size (fun k hk => (ow_block hown k hk).1)
  have hh := H.blk.below hb1
  refine step_run _ hgd x y _ _ ho _ _ hs hy _ _ hr ?_
  refine h A3 c4 w3 (hh.cell 2) (hh.free 2) (Lib.hid ⟨?_, hb1, hblk⟩)
  have hlen : (s.marks.take j ++ s.marks.drop (j + 1)).length = j + n3 := by simp; omega
  rw [hlen, List.map_append]
  exact ⟨h2.1, h2.2.imp id (fun ⟨g, cap, cur, q1, q2, q3⟩ => ⟨g, cap, cur, q1, Nat.zero_le _, q3⟩)⟩

/-- What stands behind the removal. -/
theorem Rw.done {W w3 : World} {o : Nat} {v m m' : Value} {s : WS} {j : Nat} (H : Rw W o v m s)
    (H5 : Hid (w3.ownsRow 0 3 1 m' (s.marks.take j ++ s.marks.drop (j + 1)).length ((s.marks.take j ++ s.marks.drop (j + 1)).map (Value.int .i64)) ∧ Below W.heap.size W w3 ∧ ∀ g, m'.ownBlock = some g → W.heap.size ≤ g)) :
    Rw (w3.setCell ⟨o, 2, none⟩ m') o v m' { s with marks := s.marks.take j ++ s.marks.drop (j + 1) } ∧ Next W (rwl o v m) (w3.setCell ⟨o, 2, none⟩ m') (rwl o v m') := by
  obtain ⟨h1, h2, h3⟩ := H5.out
  have hsub : (s.marks.take j ++ s.marks.drop (j + 1)).Sublist s.marks := by
    have h := (List.Sublist.refl (s.marks.take j)).append (List.drop_sublist 1 (s.marks.drop j))
    rw [List.drop_drop, List.take_append_drop] at h
    exact h
  obtain ⟨q1, q2⟩ := H.turnM (ms := s.marks.take j ++ s.marks.drop (j + 1)) (fun k hk => H.open_ k (hsub.subset hk)) (H.asc.sublist hsub) (turn_below h2 []) (by simp) (by simp) h1
  refine ⟨q1, q2.mono (fun k hk => .inl (by simp at hk; simp [rwl, hk])), fun k hk => ?_⟩
  simp only [rwl, List.mem_cons, List.mem_append, Option.mem_toList] at hk ⊢
  rcases hk with hk | hk | hk
  · exact .inl (.inl hk)
  · exact .inl (.inr (.inl hk))
  · exact .inr (h3 k hk)

set_option maxHeartbeats 4000000 in
theorem ppatch (o : Nat) (l : List Nat) (s : WS) (w : World) (H : RwL w l o s) (m : Int) (hwf : (Lit.int .i64 m).wf = true) :
    Calls Try.prog 24 #[.pointer (some ⟨o, 0, none⟩), .int .i64 m] w fun e w' => e = .returned (.int .i64 (s.patch m).1) ∧ ∃ l', RwL w' l' o (s.patch m).2 ∧ Next w l w' l' := by
  have HL := Lib.hid H
  obtain ⟨v, M, rfl, hw⟩ := H
  obtain ⟨A, c, hv, hnc, hcm, hnil, hsome⟩ := ow_form hw.out
  subst hv
  obtain ⟨A1, c1, hv, hnc1, hcm1, hnil1, hsome1⟩ := ow_form hw.mks
  subst hv
  have d0 := hw.c0
  have d2 := hw.c2
  have hroom := hw.room
  have htop := hw.top
  have hml : s.marks.length ≤ 9223372036854775807 := by unfold maxLen at hcm1; omega
  have HW := Lib.hid hw
  clear hw hnc hcm hnil hsome hnc1 hcm1 hnil1 hsome1
  go_enter Try.func24, Try.ntmps24
  go_wp2_with fail
  go_loop [5] (fun i => ∃ j : Nat, i = .int .i64 j ∧ j ≤ s.marks.length ∧ ∀ t (ht : t < s.marks.length), t < j → s.marks[t] ≠ m) (fun i => s.marks.length - (intOf i).toNat)
  case atStart => exact ⟨0, rfl, Nat.zero_le _, fun t _ ht => by omega⟩
  case round =>
    obtain ⟨j, rfl, hj, hbefore⟩ := hrel
    have HB := Lib.hid hbefore
    clear hbefore
    by_cases hlt : j < s.marks.length
    · obtain ⟨gm, rfl, hmc, hmm, hcell, hfr, hgm⟩ := ow_cell HW.out.mks j hlt
      unfold maxLen at hmm
      have hcj := hcell j (by simpa using hlt)
      rw [List.getElem_map] at hcj
      have HC := Lib.hid hcell
      clear hcell
      by_cases hm : s.marks[j] = m
      · have hmem : m ∈ s.marks := by rw [← hm]; exact List.getElem_mem hlt
        have hopen := HW.out.open_ m hmem
        rw [hm] at hcj
        obtain ⟨a, rfl⟩ : ∃ a : Nat, m = a := ⟨m.toNat, by omega⟩
        have e : Hid (s.patch a = (0, { s with out := s.out.take a ++ be ((s.out.length : Int) - (a + 2)) 2 ++ s.out.drop (a + 2), marks := s.marks.take j ++ s.marks.drop (j + 1) })) := Lib.hid (by
          have hfo := filter_out HW.out.asc j hlt
          rw [hm] at hfo
          unfold WS.patch
          rw [if_pos hmem, hfo]
          rfl)
        have hml2 : s.marks.length ≤ 1000000 := HW.out.few
        obtain ⟨gb, rfl, hbc, hbm, hbcell, hbfr, hgb⟩ := ow_cell HW.out.out a (by omega)
        unfold maxLen at hbm
        have hob : o ≠ gb := by
          intro h
          exact ow_has HW.out.out HW.out.blk (by decide) (by rw [h]; rfl)
        have hbo : gb ≠ o := fun h => hob h.symm
        have x0 := hbcell a (by simp; omega)
        have x1 := hbcell (a + 1) (by simp; omega)
        have f0 := hbfr a
        have f1 := hbfr (a + 1)
        rw [List.getElem_map] at x0 x1
        obtain ⟨y0, hy0⟩ : ∃ y, s.out[a]'(by omega) = y := ⟨_, rfl⟩
        obtain ⟨y1, hy1⟩ : ∃ y, s.out[a + 1]'(by omega) = y := ⟨_, rfl⟩
        rw [hy0] at x0
        rw [hy1] at x1
        have b0 : (0 : Int) ≤ (a : Int) := by omega
        have b1 : (a : Int) < (s.out.length : Int) := by omega
        have b2 : IntKind.i64.wrap ((a : Int) + 1) = (a : Int) + 1 := IntWalk.i64_in _ (by omega)
        have b3 : (0 : Int) ≤ (a : Int) + 1 := by omega
        have b4 : (a : Int) + 1 < (s.out.length : Int) := by omega
        have b5 : ((a : Int) + 1).toNat = a + 1 := by omega
        obtain ⟨n, hn⟩ : ∃ n : Int, (s.out.length : Int) - (a : Int) - 2 = n := ⟨_, rfl⟩
        have hn0 : 0 ≤ n ∧ n ≤ 65534 := by omega
        obtain ⟨hn0, hn1⟩ := hn0
        clear hy0 hy1 hbcell hbfr hfr hopen hmem hm
        go_wp2_with fail
        have hP := HW.out.patched (a := a) (n := n) (by omega) hn0 hn1
        have hs1e : ({ s with out := s.out.take a ++ be ((s.out.length : Int) - (a + 2)) 2 ++ s.out.drop (a + 2) } : WS) = { s with out := s.out.take a ++ be n 2 ++ s.out.drop (a + 2) } := by
          rw [show (s.out.length : Int) - (a + 2) = n by omega]
        have e9 : Hid (s.patch a = (0, { ({ s with out := s.out.take a ++ be n 2 ++ s.out.drop (a + 2) } : WS) with marks := s.marks.take j ++ s.marks.drop (j + 1) })) := Lib.hid (by rw [e.out, ← hs1e])
        have HP := Lib.hid hP
        clear hP hs1e e
        go_region
        go_wp2_with fail
        have HP2 : Hid (Rw ((w.setCell ⟨gb, a, none⟩ (.int .u8 (n / 256))).setCell ⟨gb, a + 1, none⟩ (.int .u8 (n % 256))).drew o (.slice (some ⟨gb, 0, none⟩) s.out.length c) (.slice (some ⟨gm, 0, none⟩) s.marks.length c1) { s with out := s.out.take a ++ be n 2 ++ s.out.drop (a + 2) }) := Lib.hid HP.out.1
        have HT2 : Hid (Turn [gb] w ((w.setCell ⟨gb, a, none⟩ (.int .u8 (n / 256))).setCell ⟨gb, a + 1, none⟩ (.int .u8 (n % 256))).drew) := Lib.hid HP.out.2
        clear HP x0 x1 f0 f1 d0 d2 hcj
        obtain ⟨P, hP⟩ : ∃ P : List Int, s.out.take a ++ be n 2 ++ s.out.drop (a + 2) = P := ⟨_, rfl⟩
        rw [hP] at e9 HP2
        clear hP
        generalize ((w.setCell ⟨gb, a, none⟩ (.int .u8 (n / 256))).setCell ⟨gb, a + 1, none⟩ (.int .u8 (n % 256))).drew = W1 at *
        have k2 := HP2.out.c2
        have ol := HP2.out.blk.lt
        have hmm2 : IntKind.i64.wrap ((j : Int) + 1) = (j : Int) + 1 := IntWalk.i64_in _ (by omega)
        have j0 : (0 : Int) ≤ (j : Int) := by omega
        have j1 : (j : Int) ≤ (c1 : Int) := by omega
        have j2 : (0 : Int) ≤ (j : Int) + 1 := by omega
        have j3 : (j : Int) + 1 ≤ (s.marks.length : Int) := by omega
        have j4 : ((j : Int) + 1).toNat = j + 1 := by omega
        have j5 : ((s.marks.length : Int)).toNat - (j + 1) = s.marks.length - (j + 1) := by omega
        have HN2 : Hid (Next w (rwl o (.slice (some ⟨gb, 0, none⟩) s.out.length c) (.slice (some ⟨gm, 0, none⟩) s.marks.length c1)) W1 (rwl o (.slice (some ⟨gb, 0, none⟩) s.out.length c) (.slice (some ⟨gm, 0, none⟩) s.marks.length c1))) := Lib.hid ⟨HT2.out.mono (fun k hk => .inl (by simp at hk; simp [rwl, Value.ownBlock, hk])), fun k hk => .inl hk⟩
        by_cases hcap : c1 = j + 1
        · subst hcap
          have j6 : (j : Int) ≤ (j : Int) + 1 := by omega
          have j7 : s.marks.length = j + 1 := by omega
          have J7 := Lib.hid j7
          clear j7
          go_region_law (first
            | (refine Rw.stepA (s := { s with out := P }) HP2.out hlt hml2 rfl (.tmp 54) (.tmp 60) rfl rfl rfl ?_; intro A2 c2 w2 k3 H3)
            | (refine Rw.stepB (s := { s with out := P }) HP2.out hlt hml2 H3 rfl (.tmp 61) (.tmp 68) rfl _ _ _ rfl rfl ?_ ?_ ?_
               · have := J7.out; dsimp only; omega
               · have := J7.out; right; omega
               intro A3 c4 w3 k4 k5 H5))
          all_goals
            go_wp2_with fail
            go_ret
            rw [e9.out]
            obtain ⟨q1, q2⟩ := Rw.done (s := { s with out := P }) HP2.out H5
            exact ⟨rfl, _, ⟨_, _, rfl, q1⟩, HN2.out.trans q2⟩
        · have j6 : ¬ j + 1 = c1 := by omega
          have j8 : (j : Int) + 1 ≤ (c1 : Int) := by omega
          go_region_law (first
            | (refine Rw.stepA (s := { s with out := P }) HP2.out hlt hml2 rfl (.tmp 54) (.tmp 60) rfl rfl rfl ?_; intro A2 c2 w2 k3 H3)
            | (refine Rw.stepB (s := { s with out := P }) HP2.out hlt hml2 H3 rfl (.tmp 61) (.tmp 68) rfl _ _ _ rfl rfl ?_ ?_ ?_
               · first | rfl | (dsimp only; omega)
               · left; simp
               intro A3 c4 w3 k4 k5 H5))
          all_goals
            go_wp2_with fail
            go_ret
            rw [e9.out]
            obtain ⟨q1, q2⟩ := Rw.done (s := { s with out := P }) HP2.out H5
            exact ⟨rfl, _, ⟨_, _, rfl, q1⟩, HN2.out.trans q2⟩
      · have hne : (s.marks[j] != m) = true := by simpa using hm
        have HM := Lib.hid hm
        obtain ⟨y, hy⟩ : ∃ y, s.marks[j] = y := ⟨_, rfl⟩
        have HY := Lib.hid hy
        rw [hy] at hcj hne
        clear hm hy
        go_wp2_with fail
        go_round
        case rel =>
          refine ⟨j + 1, by go_num, by omega, fun t ht htj => ?_⟩
          by_cases htj2 : t = j
          · subst htj2; exact HM.out
          · exact HB.out t ht (by omega)
        case measure => simp [intOf]; omega
    · have hjl : j = s.marks.length := by omega
      subst hjl
      have e : Hid (s.patch m = (16, s)) := Lib.hid (by
        unfold WS.patch
        rw [if_neg]
        intro hm
        obtain ⟨t, ht, he⟩ := List.getElem_of_mem hm
        exact HB.out t ht ht he)
      go_wp2_with fail
      go_ret
      rw [e.out]
      exact ⟨rfl, _, HL.out, Next.refl _ _⟩

end Go.Proofs.Ytbaikpfibojdnaa
