/- PacketSums: the walk; written by gen_pkw2.py. -/
import Derived.Test.YtnmbmogjgkgjjaaPkM
import Derived.Test.YtnmbmogjgkgjjaaPkH
namespace Go.Proofs.Ytnmbmogjgkgjjaa
open Go.RowKit Go.Shelf
set_option linter.unusedVariables false
set_option linter.unusedSimpArgs false
set_option maxRecDepth 100000

set_option maxHeartbeats 2000000 in
theorem sums_no (x : FR) (hx : x.ty) (l : Int) (hl : (Lit.int .i64 l).wf = true) (u : Int) (hu : 0 ≤ u ∧ u ≤ 255) (hc : fchk x ≠ 0) (w : World) : Calls Try.prog 8 #[.agg x.cs, .int .i64 l, .int .u8 u] w fun e w' => e = .returned (.bool true) ∧ Below w.heap.size w w' := by
  obtain ⟨ec, hec⟩ : ∃ ec, fchk x = ec := ⟨_, rfl⟩
  have HY : Hid (∀ W : World, Calls Try.prog 10 #[.agg #[.int .u64 x.s, .int .u64 x.d, .int .i64 x.k, .int .i64 x.op, .int .u64 x.sm, .int .u32 x.si, .int .u64 x.tm, .int .u32 x.ti, .int .u32 x.hs, .int .u32 x.hd, .int .i64 x.tl, .int .i64 x.pr, .int .i64 x.sp, .int .i64 x.dp, .int .u64 x.da]] W fun e w' => e = .returned (.tuple #[.slice none 0 0, .int .i64 ec]) ∧ Below W.heap.size W w') := Lib.hid (fun W => hec ▸ bytes_no x hx hc W)
  rw [hec] at hc
  have hne : (ec != 0) = true := by simpa using hc
  clear hec hc hx
  have HBox : Hid (Has (w.alloc (.cells #[.int .u64 x.s, .int .u64 x.d, .int .i64 x.k, .int .i64 x.op, .int .u64 x.sm, .int .u32 x.si, .int .u64 x.tm, .int .u32 x.ti, .int .u32 x.hs, .int .u32 x.hd, .int .i64 x.tl, .int .i64 x.pr, .int .i64 x.sp, .int .i64 x.dp, .int .u64 x.da] 36)) w.heap.size 36 #[.int .u64 x.s, .int .u64 x.d, .int .i64 x.k, .int .i64 x.op, .int .u64 x.sm, .int .u32 x.si, .int .u64 x.tm, .int .u32 x.ti, .int .u32 x.hs, .int .u32 x.hd, .int .i64 x.tl, .int .i64 x.pr, .int .i64 x.sp, .int .i64 x.dp, .int .u64 x.da]) := Lib.hid (Has.new w _ _)
  have HL : Hid (Below w.heap.size w (w.alloc (.cells #[.int .u64 x.s, .int .u64 x.d, .int .i64 x.k, .int .i64 x.op, .int .u64 x.sm, .int .u32 x.si, .int .u64 x.tm, .int .u32 x.ti, .int .u32 x.hs, .int .u32 x.hd, .int .i64 x.tl, .int .i64 x.pr, .int .i64 x.sp, .int .i64 x.dp, .int .u64 x.da] 36))) := Lib.hid ((Below.refl _ w).alloc (Nat.le_refl _) _)
  unfold FR.cs
  go_enter Try.func8, Try.ntmps8
  go_wp2_with fail
  refine (lives7 _).mono ?_
  rintro e w1 ⟨rfl, hb⟩
  have HBox1 := Lib.hid (HBox.out.below hb)
  have HL1 := Lib.hid (HL.out.trans (hb.mono HL.out.size))
  clear hb HBox HL
  have HBox := HBox1
  have HL := HL1
  clear HBox1 HL1
  have c0 := HBox.out.cell 0
  have c1 := HBox.out.cell 1
  have c2 := HBox.out.cell 2
  have c3 := HBox.out.cell 3
  have c4 := HBox.out.cell 4
  have c5 := HBox.out.cell 5
  have c6 := HBox.out.cell 6
  have c7 := HBox.out.cell 7
  have c8 := HBox.out.cell 8
  have c9 := HBox.out.cell 9
  have c10 := HBox.out.cell 10
  have c11 := HBox.out.cell 11
  have c12 := HBox.out.cell 12
  have c13 := HBox.out.cell 13
  have c14 := HBox.out.cell 14
  simp only [List.getElem?_toArray, List.getElem?_cons_zero, List.getElem?_cons_succ] at c0 c1 c2 c3 c4 c5 c6 c7 c8 c9 c10 c11 c12 c13 c14
  go_wp2_with fail
  refine (HY.out _).mono ?_
  rintro e w1 ⟨rfl, hb⟩
  have HBox1 := Lib.hid (HBox.out.below hb)
  have HL1 := Lib.hid (HL.out.trans (hb.mono HL.out.size))
  clear hb HBox HL
  have HBox := HBox1
  have HL := HL1
  clear HBox1 HL1
  clear c0 c1 c2 c3 c4 c5 c6 c7 c8 c9 c10 c11 c12 c13 c14
  go_wp2_with fail
  go_ret
  exact ⟨rfl, HL.out⟩

set_option maxHeartbeats 2000000 in
theorem sums_kind (x : FR) (hx : x.ty) (l : Int) (hl : (Lit.int .i64 l).wf = true) (u : Int) (hu : 0 ≤ u ∧ u ≤ 255) (hc : fchk x = 0) (hk : x.k ≠ 2) (w : World) : Calls Try.prog 8 #[.agg x.cs, .int .i64 l, .int .u8 u] w fun e w' => e = .returned (.bool true) ∧ Below w.heap.size w w' := by
  obtain ⟨m, hm⟩ : ∃ m, (fenc x).length = m := ⟨_, rfl⟩
  have HY : Hid (∀ W : World, Calls Try.prog 10 #[.agg #[.int .u64 x.s, .int .u64 x.d, .int .i64 x.k, .int .i64 x.op, .int .u64 x.sm, .int .u32 x.si, .int .u64 x.tm, .int .u32 x.ti, .int .u32 x.hs, .int .u32 x.hd, .int .i64 x.tl, .int .i64 x.pr, .int .i64 x.sp, .int .i64 x.dp, .int .u64 x.da]] W fun e w' => ∃ b c, e = .returned (.tuple #[.slice (some ⟨b, 0, none⟩) m c, .int .i64 0]) ∧ Row w' b c (fenc x) ∧ W.heap.size ≤ b ∧ Below W.heap.size W w') := Lib.hid (fun W => hm ▸ bytes_yes x hx hc W)
  have HK : Hid ((x.k != 2) = true) := Lib.hid (by simpa using hk)
  clear hm hc hx hk
  have HBox : Hid (Has (w.alloc (.cells #[.int .u64 x.s, .int .u64 x.d, .int .i64 x.k, .int .i64 x.op, .int .u64 x.sm, .int .u32 x.si, .int .u64 x.tm, .int .u32 x.ti, .int .u32 x.hs, .int .u32 x.hd, .int .i64 x.tl, .int .i64 x.pr, .int .i64 x.sp, .int .i64 x.dp, .int .u64 x.da] 36)) w.heap.size 36 #[.int .u64 x.s, .int .u64 x.d, .int .i64 x.k, .int .i64 x.op, .int .u64 x.sm, .int .u32 x.si, .int .u64 x.tm, .int .u32 x.ti, .int .u32 x.hs, .int .u32 x.hd, .int .i64 x.tl, .int .i64 x.pr, .int .i64 x.sp, .int .i64 x.dp, .int .u64 x.da]) := Lib.hid (Has.new w _ _)
  have HL : Hid (Below w.heap.size w (w.alloc (.cells #[.int .u64 x.s, .int .u64 x.d, .int .i64 x.k, .int .i64 x.op, .int .u64 x.sm, .int .u32 x.si, .int .u64 x.tm, .int .u32 x.ti, .int .u32 x.hs, .int .u32 x.hd, .int .i64 x.tl, .int .i64 x.pr, .int .i64 x.sp, .int .i64 x.dp, .int .u64 x.da] 36))) := Lib.hid ((Below.refl _ w).alloc (Nat.le_refl _) _)
  unfold FR.cs
  go_enter Try.func8, Try.ntmps8
  go_wp2_with fail
  refine (lives7 _).mono ?_
  rintro e w1 ⟨rfl, hb⟩
  have HBox1 := Lib.hid (HBox.out.below hb)
  have HL1 := Lib.hid (HL.out.trans (hb.mono HL.out.size))
  clear hb HBox HL
  have HBox := HBox1
  have HL := HL1
  clear HBox1 HL1
  have c0 := HBox.out.cell 0
  have c1 := HBox.out.cell 1
  have c2 := HBox.out.cell 2
  have c3 := HBox.out.cell 3
  have c4 := HBox.out.cell 4
  have c5 := HBox.out.cell 5
  have c6 := HBox.out.cell 6
  have c7 := HBox.out.cell 7
  have c8 := HBox.out.cell 8
  have c9 := HBox.out.cell 9
  have c10 := HBox.out.cell 10
  have c11 := HBox.out.cell 11
  have c12 := HBox.out.cell 12
  have c13 := HBox.out.cell 13
  have c14 := HBox.out.cell 14
  simp only [List.getElem?_toArray, List.getElem?_cons_zero, List.getElem?_cons_succ] at c0 c1 c2 c3 c4 c5 c6 c7 c8 c9 c10 c11 c12 c13 c14
  go_wp2_with fail
  refine (HY.out _).mono ?_
  rintro e w1 ⟨b, c, rfl, _, _, hb⟩
  have HBox1 := Lib.hid (HBox.out.below hb)
  have HL1 := Lib.hid (HL.out.trans (hb.mono HL.out.size))
  clear hb HBox HL
  have HBox := HBox1
  have HL := HL1
  clear HBox1 HL1
  clear c0 c1 c2 c3 c4 c5 c6 c7 c8 c9 c10 c11 c12 c13 c14
  have c2 := HBox.out.cell 2
  simp only [List.getElem?_toArray, List.getElem?_cons_zero, List.getElem?_cons_succ] at c2
  have hne := HK.out
  go_wp2_with fail
  go_ret
  exact ⟨rfl, HL.out⟩

set_option maxHeartbeats 2000000 in
theorem sums_yes (x : FR) (hx : x.ty) (l : Int) (hl : (Lit.int .i64 l).wf = true) (u : Int) (hu : 0 ≤ u ∧ u ≤ 255) (hc : fchk x = 0) (hk : x.k = 2) (w : World) : Calls Try.prog 8 #[.agg x.cs, .int .i64 l, .int .u8 u] w fun e w' => e = .returned (.bool true) ∧ Below w.heap.size w w' := by
  obtain ⟨m, hm⟩ : ∃ m, (fenc x).length = m := ⟨_, rfl⟩
  have HY : Hid (∀ W : World, Calls Try.prog 10 #[.agg #[.int .u64 x.s, .int .u64 x.d, .int .i64 x.k, .int .i64 x.op, .int .u64 x.sm, .int .u32 x.si, .int .u64 x.tm, .int .u32 x.ti, .int .u32 x.hs, .int .u32 x.hd, .int .i64 x.tl, .int .i64 x.pr, .int .i64 x.sp, .int .i64 x.dp, .int .u64 x.da]] W fun e w' => ∃ b c, e = .returned (.tuple #[.slice (some ⟨b, 0, none⟩) m c, .int .i64 0]) ∧ Row w' b c (fenc x) ∧ W.heap.size ≤ b ∧ Below W.heap.size W w') := Lib.hid (fun W => hm ▸ bytes_yes x hx hc W)
  have HK := Lib.hid hk
  have HPure : Hid (∀ (a : Nat) (h14 : 14 ≤ a) (h34 : a < 34) (hl : a < (fenc x).length), ((fread ((fenc x).set a u)).2.1 == 0) = (u == (fenc x)[a])) := Lib.hid (fun a h14 h34 hla => sums_pure hx hc hk a h14 h34 hla u hu.1 hu.2)
  have HLen : Hid (42 ≤ m ∧ (fenc x).length = m) := Lib.hid ⟨hm ▸ enc_len2 hk, hm⟩
  have HSum : Hid (∀ (W : World) (b c c' : Nat), Row W b c (fenc x) → Calls Try.prog 14 #[.slice (some ⟨b, 14, none⟩) 20 c'] W fun e w' => e = .returned (.int .u16 0) ∧ Below W.heap.size W w') := Lib.hid (fun W b c c' hr => by
    have hp := hr.part 14 20
    rw [enc_hdr hk] at hp
    have h20 : (hdrS x).length = 20 := by unfold hdrS; rw [hdr_len]
    have h := sum_arr (.slice (some ⟨b, 14, none⟩) 20 c') (hdrS x) W (.inr ⟨_, c', by rw [h20], Sl.at_ hp⟩) (by rw [h20]; decide) (hdrS_byte x)
    rw [hdrS_zero] at h
    exact h)
  have HRd : Hid (∀ (W : World) (b c a : Nat), Row W b c ((fenc x).set a u) → ∃ (X : FR) (er i : Int), (fread ((fenc x).set a u)).2.1 = er ∧ Calls Try.prog 11 #[.slice (some ⟨b, 0, none⟩) m c] W fun e w' => e = .returned (.tuple #[.agg #[.int .u64 X.s, .int .u64 X.d, .int .i64 X.k, .int .i64 X.op, .int .u64 X.sm, .int .u32 X.si, .int .u64 X.tm, .int .u32 X.ti, .int .u32 X.hs, .int .u32 X.hd, .int .i64 X.tl, .int .i64 X.pr, .int .i64 X.sp, .int .i64 X.dp, .int .u64 X.da], .agg #[.int .i64 er, .int .i64 i]]) ∧ Below W.heap.size W w') := Lib.hid (fun W b c a hr => by
    refine ⟨(fread ((fenc x).set a u)).1, (fread ((fenc x).set a u)).2.1, (fread ((fenc x).set a u)).2.2, rfl, ?_⟩
    have h := read_any (.slice (some ⟨b, 0, none⟩) m c) ((fenc x).set a u) W (row_arr hr (by rw [List.length_set]; exact hm)) (fun v hv => by
      rcases List.mem_or_eq_of_mem_set hv with h | rfl
      · exact fenc_byte x v h
      · exact hu)
    unfold ReadsTo at h
    exact h)
  have HBy := Lib.hid (fenc_byte x)
  obtain ⟨n, hn⟩ := Int.eq_ofNat_of_zero_le (Int.emod_nonneg l (show (20 : Int) ≠ 0 by decide))
  have hn2 : n < 20 := by have := Int.emod_lt_of_pos l (show (0 : Int) < 20 by decide); omega
  have HN := Lib.hid hn
  obtain ⟨hu0, hu1⟩ := hu
  clear hm hc hx hk hn
  have HBox : Hid (Has (w.alloc (.cells #[.int .u64 x.s, .int .u64 x.d, .int .i64 x.k, .int .i64 x.op, .int .u64 x.sm, .int .u32 x.si, .int .u64 x.tm, .int .u32 x.ti, .int .u32 x.hs, .int .u32 x.hd, .int .i64 x.tl, .int .i64 x.pr, .int .i64 x.sp, .int .i64 x.dp, .int .u64 x.da] 36)) w.heap.size 36 #[.int .u64 x.s, .int .u64 x.d, .int .i64 x.k, .int .i64 x.op, .int .u64 x.sm, .int .u32 x.si, .int .u64 x.tm, .int .u32 x.ti, .int .u32 x.hs, .int .u32 x.hd, .int .i64 x.tl, .int .i64 x.pr, .int .i64 x.sp, .int .i64 x.dp, .int .u64 x.da]) := Lib.hid (Has.new w _ _)
  have HL : Hid (Below w.heap.size w (w.alloc (.cells #[.int .u64 x.s, .int .u64 x.d, .int .i64 x.k, .int .i64 x.op, .int .u64 x.sm, .int .u32 x.si, .int .u64 x.tm, .int .u32 x.ti, .int .u32 x.hs, .int .u32 x.hd, .int .i64 x.tl, .int .i64 x.pr, .int .i64 x.sp, .int .i64 x.dp, .int .u64 x.da] 36))) := Lib.hid ((Below.refl _ w).alloc (Nat.le_refl _) _)
  unfold FR.cs
  go_enter Try.func8, Try.ntmps8
  go_wp2_with fail
  refine (lives7 _).mono ?_
  rintro e w1 ⟨rfl, hb⟩
  have HBox1 := Lib.hid (HBox.out.below hb)
  have HL1 := Lib.hid (HL.out.trans (hb.mono HL.out.size))
  clear hb HBox HL
  have HBox := HBox1
  have HL := HL1
  clear HBox1 HL1
  have c0 := HBox.out.cell 0
  have c1 := HBox.out.cell 1
  have c2 := HBox.out.cell 2
  have c3 := HBox.out.cell 3
  have c4 := HBox.out.cell 4
  have c5 := HBox.out.cell 5
  have c6 := HBox.out.cell 6
  have c7 := HBox.out.cell 7
  have c8 := HBox.out.cell 8
  have c9 := HBox.out.cell 9
  have c10 := HBox.out.cell 10
  have c11 := HBox.out.cell 11
  have c12 := HBox.out.cell 12
  have c13 := HBox.out.cell 13
  have c14 := HBox.out.cell 14
  simp only [List.getElem?_toArray, List.getElem?_cons_zero, List.getElem?_cons_succ] at c0 c1 c2 c3 c4 c5 c6 c7 c8 c9 c10 c11 c12 c13 c14
  go_wp2_with fail
  refine (HY.out _).mono ?_
  rintro e w1 ⟨b, c, rfl, hrow, hszb, hb⟩
  have HbG := Lib.hid (Nat.le_trans HL.out.size hszb)
  have HBox1 := Lib.hid (HBox.out.below hb)
  have HL1 := Lib.hid (HL.out.trans (hb.mono HL.out.size))
  clear hb HBox HL
  have HBox := HBox1
  have HL := HL1
  clear HBox1 HL1
  have HRow := Lib.hid hrow
  clear hrow hszb c0 c1 c2 c3 c4 c5 c6 c7 c8 c9 c10 c11 c12 c13 c14
  have c2 := HBox.out.cell 2
  simp only [List.getElem?_toArray, List.getElem?_cons_zero, List.getElem?_cons_succ] at c2
  rw [HK.out] at c2
  have hm42 := HLen.out.1
  have hmc : m ≤ c := by
    obtain ⟨_, _, _, _, h4, _⟩ := HRow.out
    rw [HLen.out.2] at h4
    exact h4
  have e1 : ¬ ((m : Int) < 34) := by omega
  have e2 : (34 : Int) ≤ (c : Int) := by omega
  go_wp2_with fail
  refine (pick_any l 20 (by decide) (by decide) _).mono ?_
  rintro e w9 ⟨rfl, rfl⟩
  rw [HN.out]
  go_wp2_with fail
  refine (HSum.out _ _ _ _ HRow.out).mono ?_
  rintro e w1 ⟨rfl, hb⟩
  have HRow1 := Lib.hid (HRow.out.below hb)
  have HL1 := Lib.hid (HL.out.trans (hb.mono HL.out.size))
  clear hb HBox HL HRow c2
  have hla : 14 + n < (fenc x).length := by rw [HLen.out.2]; omega
  have hcell := HRow1.out.cell (14 + n) hla
  obtain ⟨y, hy⟩ : ∃ y, (fenc x)[14 + n] = y := ⟨_, rfl⟩
  have hyb := HBy.out _ (List.getElem_mem hla)
  have HP2 := Lib.hid (HPure.out (14 + n) (by omega) (by omega) hla)
  rw [hy] at hcell hyb HP2
  have hfr : w1.frozen? ⟨b, 14 + n, none⟩ = false := by
    obtain ⟨_, h1, _⟩ := HRow1.out
    exact h1.free _
  have hnm : 14 + (n : Int) < (m : Int) := by omega
  have HRow2 := Lib.hid (HRow1.out.set_ (14 + n) u)
  have HL2 : Hid (Below w.heap.size w (w1.setCell ⟨b, 14 + n, none⟩ (.int .u8 u))) := Lib.hid (HL1.out.setCell (p := ⟨b, 14 + n, none⟩) HbG.out _)
  obtain ⟨X, er, i, her, hrd⟩ := HRd.out _ _ _ _ HRow2.out
  have HR := Lib.hid hrd
  rw [her] at HP2
  clear hy hrd her hla
  go_wp2_with fail
  refine HR.out.mono ?_
  rintro e w3 ⟨rfl, hb⟩
  have HL3 := Lib.hid (HL2.out.trans (hb.mono HL2.out.size))
  clear hb hcell hfr
  obtain ⟨b9, hb9⟩ : ∃ b9, (er == 0) = b9 := ⟨_, rfl⟩
  have h29 : (u == y) = b9 := by rw [← HP2.out]; exact hb9
  have hfin : Below w.heap.size w ((w3.alloc (.cells #[.int .u64 X.s, .int .u64 X.d, .int .i64 X.k, .int .i64 X.op, .int .u64 X.sm, .int .u32 X.si, .int .u64 X.tm, .int .u32 X.ti, .int .u32 X.hs, .int .u32 X.hd, .int .i64 X.tl, .int .i64 X.pr, .int .i64 X.sp, .int .i64 X.dp, .int .u64 X.da] 36)).alloc (.cells #[.int .i64 er, .int .i64 i] 38)) := (HL3.out.alloc HL3.out.size _).alloc (by have := HL3.out.size; simp; omega) _
  have HFin := Lib.hid hfin
  clear hfin
  cases b9
  · go_wp2_with fail
    go_ret
    exact ⟨rfl, HFin.out⟩
  · go_wp2_with fail
    go_ret
    exact ⟨rfl, HFin.out⟩

theorem sums_walk (x : FR) (hx : x.ty) (l : Int) (hl : (Lit.int .i64 l).wf = true) (u : Int) (hu : 0 ≤ u ∧ u ≤ 255) (w : World) : Calls Try.prog 8 #[.agg x.cs, .int .i64 l, .int .u8 u] w fun e w' => e = .returned (.bool true) ∧ Below w.heap.size w w' := by
  by_cases hc : fchk x = 0
  · by_cases hk : x.k = 2
    · exact sums_yes x hx l hl u hu hc hk w
    · exact sums_kind x hx l hl u hu hc hk w
  · exact sums_no x hx l hl u hu hc w

end Go.Proofs.Ytnmbmogjgkgjjaa
