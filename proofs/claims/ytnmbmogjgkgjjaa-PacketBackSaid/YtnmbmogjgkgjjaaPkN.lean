/- PacketBack: the walk; written by gen_pkn.py. -/
import Derived.Test.YtnmbmogjgkgjjaaPkM
namespace Go.Proofs.Ytnmbmogjgkgjjaa
open Go.RowKit Go.Shelf
set_option linter.unusedVariables false
set_option linter.unusedSimpArgs false
set_option maxRecDepth 100000

set_option maxHeartbeats 2000000 in
theorem back_no (x : FR) (hx : x.ty) (hc : fchk x ≠ 0) (w : World) : Calls Try.prog 6 #[.agg x.cs] w fun e w' => e = .returned (.bool true) ∧ Below w.heap.size w w' := by
  obtain ⟨ec, hec⟩ : ∃ ec, fchk x = ec := ⟨_, rfl⟩
  have HY : Hid (∀ W : World, Calls Try.prog 10 #[.agg #[.int .u64 x.s, .int .u64 x.d, .int .i64 x.k, .int .i64 x.op, .int .u64 x.sm, .int .u32 x.si, .int .u64 x.tm, .int .u32 x.ti, .int .u32 x.hs, .int .u32 x.hd, .int .i64 x.tl, .int .i64 x.pr, .int .i64 x.sp, .int .i64 x.dp, .int .u64 x.da]] W fun e w' => e = .returned (.tuple #[.slice none 0 0, .int .i64 ec]) ∧ Below W.heap.size W w') := Lib.hid (fun W => hec ▸ bytes_no x hx hc W)
  have HChk : Hid (∀ W : World, Calls Try.prog 13 #[.agg #[.int .u64 x.s, .int .u64 x.d, .int .i64 x.k, .int .i64 x.op, .int .u64 x.sm, .int .u32 x.si, .int .u64 x.tm, .int .u32 x.ti, .int .u32 x.hs, .int .u32 x.hd, .int .i64 x.tl, .int .i64 x.pr, .int .i64 x.sp, .int .i64 x.dp, .int .u64 x.da]] W fun e w' => e = .returned (.int .i64 ec) ∧ Below W.heap.size W w') := Lib.hid (fun W => hec ▸ check_any x hx W)
  rw [hec] at hc
  have hne : (ec != 0) = true := by simpa using hc
  clear hec hc hx
  have HBox : Hid (Has (w.alloc (.cells #[.int .u64 x.s, .int .u64 x.d, .int .i64 x.k, .int .i64 x.op, .int .u64 x.sm, .int .u32 x.si, .int .u64 x.tm, .int .u32 x.ti, .int .u32 x.hs, .int .u32 x.hd, .int .i64 x.tl, .int .i64 x.pr, .int .i64 x.sp, .int .i64 x.dp, .int .u64 x.da] 36)) w.heap.size 36 #[.int .u64 x.s, .int .u64 x.d, .int .i64 x.k, .int .i64 x.op, .int .u64 x.sm, .int .u32 x.si, .int .u64 x.tm, .int .u32 x.ti, .int .u32 x.hs, .int .u32 x.hd, .int .i64 x.tl, .int .i64 x.pr, .int .i64 x.sp, .int .i64 x.dp, .int .u64 x.da]) := Lib.hid (Has.new w _ _)
  have HL : Hid (Below w.heap.size w (w.alloc (.cells #[.int .u64 x.s, .int .u64 x.d, .int .i64 x.k, .int .i64 x.op, .int .u64 x.sm, .int .u32 x.si, .int .u64 x.tm, .int .u32 x.ti, .int .u32 x.hs, .int .u32 x.hd, .int .i64 x.tl, .int .i64 x.pr, .int .i64 x.sp, .int .i64 x.dp, .int .u64 x.da] 36))) := Lib.hid ((Below.refl _ w).alloc (Nat.le_refl _) _)
  unfold FR.cs
  go_enter Try.func6, Try.ntmps6
  go_wp2_with fail
  refine (lives7 _).mono ?_
  rintro e w1 ⟨rfl, hb⟩
  have HBox1 := Lib.hid (HBox.out.below hb)
  have HL1 := Lib.hid (HL.out.trans (hb.mono HL.out.size))
  clear hb HBox HL
  have HBox := HBox1
  have HL := HL1
  clear HBox1 HL1
  have c0 := HBox.out.cell 0
  have c1 := HBox.out.cell 1
  have c2 := HBox.out.cell 2
  have c3 := HBox.out.cell 3
  have c4 := HBox.out.cell 4
  have c5 := HBox.out.cell 5
  have c6 := HBox.out.cell 6
  have c7 := HBox.out.cell 7
  have c8 := HBox.out.cell 8
  have c9 := HBox.out.cell 9
  have c10 := HBox.out.cell 10
  have c11 := HBox.out.cell 11
  have c12 := HBox.out.cell 12
  have c13 := HBox.out.cell 13
  have c14 := HBox.out.cell 14
  simp only [List.getElem?_toArray, List.getElem?_cons_zero, List.getElem?_cons_succ] at c0 c1 c2 c3 c4 c5 c6 c7 c8 c9 c10 c11 c12 c13 c14
  go_wp2_with fail
  refine (HY.out _).mono ?_
  rintro e w1 ⟨rfl, hb⟩
  have HBox1 := Lib.hid (HBox.out.below hb)
  have HL1 := Lib.hid (HL.out.trans (hb.mono HL.out.size))
  clear hb HBox HL
  have HBox := HBox1
  have HL := HL1
  clear HBox1 HL1
  clear c0 c1 c2 c3 c4 c5 c6 c7 c8 c9 c10 c11 c12 c13 c14
  have c0 := HBox.out.cell 0
  have c1 := HBox.out.cell 1
  have c2 := HBox.out.cell 2
  have c3 := HBox.out.cell 3
  have c4 := HBox.out.cell 4
  have c5 := HBox.out.cell 5
  have c6 := HBox.out.cell 6
  have c7 := HBox.out.cell 7
  have c8 := HBox.out.cell 8
  have c9 := HBox.out.cell 9
  have c10 := HBox.out.cell 10
  have c11 := HBox.out.cell 11
  have c12 := HBox.out.cell 12
  have c13 := HBox.out.cell 13
  have c14 := HBox.out.cell 14
  simp only [List.getElem?_toArray, List.getElem?_cons_zero, List.getElem?_cons_succ] at c0 c1 c2 c3 c4 c5 c6 c7 c8 c9 c10 c11 c12 c13 c14
  go_wp2_with fail
  refine (HChk.out _).mono ?_
  rintro e w1 ⟨rfl, hb⟩
  have HBox1 := Lib.hid (HBox.out.below hb)
  have HL1 := Lib.hid (HL.out.trans (hb.mono HL.out.size))
  clear hb HBox HL
  have HBox := HBox1
  have HL := HL1
  clear HBox1 HL1
  clear c0 c1 c2 c3 c4 c5 c6 c7 c8 c9 c10 c11 c12 c13 c14
  go_wp2_with fail
  go_ret
  exact ⟨rfl, HL.out⟩

set_option maxHeartbeats 2000000 in
theorem back_yes (x : FR) (hx : x.ty) (hec : fchk x = 0) (w : World) : Calls Try.prog 6 #[.agg x.cs] w fun e w' => e = .returned (.bool true) ∧ Below w.heap.size w w' := by
  obtain ⟨m, hm⟩ : ∃ m, (fenc x).length = m := ⟨_, rfl⟩
  have HY : Hid (∀ W : World, Calls Try.prog 10 #[.agg #[.int .u64 x.s, .int .u64 x.d, .int .i64 x.k, .int .i64 x.op, .int .u64 x.sm, .int .u32 x.si, .int .u64 x.tm, .int .u32 x.ti, .int .u32 x.hs, .int .u32 x.hd, .int .i64 x.tl, .int .i64 x.pr, .int .i64 x.sp, .int .i64 x.dp, .int .u64 x.da]] W fun e w' => ∃ b c, e = .returned (.tuple #[.slice (some ⟨b, 0, none⟩) m c, .int .i64 0]) ∧ Row w' b c (fenc x) ∧ W.heap.size ≤ b ∧ Below W.heap.size W w') := Lib.hid (fun W => hm ▸ bytes_yes x hx hec W)
  have HChk : Hid (∀ W : World, Calls Try.prog 13 #[.agg #[.int .u64 x.s, .int .u64 x.d, .int .i64 x.k, .int .i64 x.op, .int .u64 x.sm, .int .u32 x.si, .int .u64 x.tm, .int .u32 x.ti, .int .u32 x.hs, .int .u32 x.hd, .int .i64 x.tl, .int .i64 x.pr, .int .i64 x.sp, .int .i64 x.dp, .int .u64 x.da]] W fun e w' => e = .returned (.int .i64 0) ∧ Below W.heap.size W w') := Lib.hid (fun W => hec ▸ check_any x hx W)
  have HRd : Hid (∀ (W : World) (b c : Nat), Row W b c (fenc x) → Calls Try.prog 11 #[.slice (some ⟨b, 0, none⟩) m c] W fun e w' => e = .returned (.tuple #[.agg #[.int .u64 x.s, .int .u64 x.d, .int .i64 x.k, .int .i64 x.op, .int .u64 x.sm, .int .u32 x.si, .int .u64 x.tm, .int .u32 x.ti, .int .u32 x.hs, .int .u32 x.hd, .int .i64 x.tl, .int .i64 x.pr, .int .i64 x.sp, .int .i64 x.dp, .int .u64 x.da], .agg #[.int .i64 0, .int .i64 0]]) ∧ Below W.heap.size W w') := Lib.hid (fun W b c hr => by
    have h := read_any (.slice (some ⟨b, 0, none⟩) m c) (fenc x) W (row_arr hr hm) (fenc_byte x)
    unfold ReadsTo at h
    rw [fread_enc hx hec] at h
    exact h)
  have hEq := eql_fr x x
  rw [FR.same_self] at hEq
  simp only [FR.cs] at hEq
  have hFt := eql_ft 0 0 0 0
  have HM := Lib.hid hm
  clear hec hm hx
  have HBox : Hid (Has (w.alloc (.cells #[.int .u64 x.s, .int .u64 x.d, .int .i64 x.k, .int .i64 x.op, .int .u64 x.sm, .int .u32 x.si, .int .u64 x.tm, .int .u32 x.ti, .int .u32 x.hs, .int .u32 x.hd, .int .i64 x.tl, .int .i64 x.pr, .int .i64 x.sp, .int .i64 x.dp, .int .u64 x.da] 36)) w.heap.size 36 #[.int .u64 x.s, .int .u64 x.d, .int .i64 x.k, .int .i64 x.op, .int .u64 x.sm, .int .u32 x.si, .int .u64 x.tm, .int .u32 x.ti, .int .u32 x.hs, .int .u32 x.hd, .int .i64 x.tl, .int .i64 x.pr, .int .i64 x.sp, .int .i64 x.dp, .int .u64 x.da]) := Lib.hid (Has.new w _ _)
  have HL : Hid (Below w.heap.size w (w.alloc (.cells #[.int .u64 x.s, .int .u64 x.d, .int .i64 x.k, .int .i64 x.op, .int .u64 x.sm, .int .u32 x.si, .int .u64 x.tm, .int .u32 x.ti, .int .u32 x.hs, .int .u32 x.hd, .int .i64 x.tl, .int .i64 x.pr, .int .i64 x.sp, .int .i64 x.dp, .int .u64 x.da] 36))) := Lib.hid ((Below.refl _ w).alloc (Nat.le_refl _) _)
  unfold FR.cs
  go_enter Try.func6, Try.ntmps6
  go_wp2_with fail
  refine (lives7 _).mono ?_
  rintro e w1 ⟨rfl, hb⟩
  have HBox1 := Lib.hid (HBox.out.below hb)
  have HL1 := Lib.hid (HL.out.trans (hb.mono HL.out.size))
  clear hb HBox HL
  have HBox := HBox1
  have HL := HL1
  clear HBox1 HL1
  have c0 := HBox.out.cell 0
  have c1 := HBox.out.cell 1
  have c2 := HBox.out.cell 2
  have c3 := HBox.out.cell 3
  have c4 := HBox.out.cell 4
  have c5 := HBox.out.cell 5
  have c6 := HBox.out.cell 6
  have c7 := HBox.out.cell 7
  have c8 := HBox.out.cell 8
  have c9 := HBox.out.cell 9
  have c10 := HBox.out.cell 10
  have c11 := HBox.out.cell 11
  have c12 := HBox.out.cell 12
  have c13 := HBox.out.cell 13
  have c14 := HBox.out.cell 14
  simp only [List.getElem?_toArray, List.getElem?_cons_zero, List.getElem?_cons_succ] at c0 c1 c2 c3 c4 c5 c6 c7 c8 c9 c10 c11 c12 c13 c14
  go_wp2_with fail
  refine (HY.out _).mono ?_
  rintro e w1 ⟨b, c, rfl, hrow, _, hb⟩
  have HBox1 := Lib.hid (HBox.out.below hb)
  have HL1 := Lib.hid (HL.out.trans (hb.mono HL.out.size))
  clear hb HBox HL
  have HBox := HBox1
  have HL := HL1
  clear HBox1 HL1
  have HRow := Lib.hid hrow
  clear hrow c0 c1 c2 c3 c4 c5 c6 c7 c8 c9 c10 c11 c12 c13 c14
  have c0 := HBox.out.cell 0
  have c1 := HBox.out.cell 1
  have c2 := HBox.out.cell 2
  have c3 := HBox.out.cell 3
  have c4 := HBox.out.cell 4
  have c5 := HBox.out.cell 5
  have c6 := HBox.out.cell 6
  have c7 := HBox.out.cell 7
  have c8 := HBox.out.cell 8
  have c9 := HBox.out.cell 9
  have c10 := HBox.out.cell 10
  have c11 := HBox.out.cell 11
  have c12 := HBox.out.cell 12
  have c13 := HBox.out.cell 13
  have c14 := HBox.out.cell 14
  simp only [List.getElem?_toArray, List.getElem?_cons_zero, List.getElem?_cons_succ] at c0 c1 c2 c3 c4 c5 c6 c7 c8 c9 c10 c11 c12 c13 c14
  go_wp2_with fail
  refine (HChk.out _).mono ?_
  rintro e w1 ⟨rfl, hb⟩
  have HRow1 := Lib.hid (HRow.out.below hb)
  have HBox1 := Lib.hid (HBox.out.below hb)
  have HL1 := Lib.hid (HL.out.trans (hb.mono HL.out.size))
  clear hb HBox HL
  have HBox := HBox1
  have HL := HL1
  clear HBox1 HL1
  clear HRow c0 c1 c2 c3 c4 c5 c6 c7 c8 c9 c10 c11 c12 c13 c14
  go_wp2_with fail
  refine (HRd.out _ _ _ HRow1.out).mono ?_
  rintro e w1 ⟨rfl, hb⟩
  have HBox1 := Lib.hid (HBox.out.below hb)
  have HL1 := Lib.hid (HL.out.trans (hb.mono HL.out.size))
  clear hb HBox HL
  have HBox := HBox1
  have HL := HL1
  clear HBox1 HL1
  have c0 := HBox.out.cell 0
  have c1 := HBox.out.cell 1
  have c2 := HBox.out.cell 2
  have c3 := HBox.out.cell 3
  have c4 := HBox.out.cell 4
  have c5 := HBox.out.cell 5
  have c6 := HBox.out.cell 6
  have c7 := HBox.out.cell 7
  have c8 := HBox.out.cell 8
  have c9 := HBox.out.cell 9
  have c10 := HBox.out.cell 10
  have c11 := HBox.out.cell 11
  have c12 := HBox.out.cell 12
  have c13 := HBox.out.cell 13
  have c14 := HBox.out.cell 14
  simp only [List.getElem?_toArray, List.getElem?_cons_zero, List.getElem?_cons_succ] at c0 c1 c2 c3 c4 c5 c6 c7 c8 c9 c10 c11 c12 c13 c14
  have hlt := HBox.out.lt
  have hfin : Below w.heap.size w (((w1.alloc (.cells #[.int .u64 x.s, .int .u64 x.d, .int .i64 x.k, .int .i64 x.op, .int .u64 x.sm, .int .u32 x.si, .int .u64 x.tm, .int .u32 x.ti, .int .u32 x.hs, .int .u32 x.hd, .int .i64 x.tl, .int .i64 x.pr, .int .i64 x.sp, .int .i64 x.dp, .int .u64 x.da] 36)).alloc (.cells #[.int .i64 0, .int .i64 0] 38))) := (HL.out.alloc HL.out.size _).alloc (by have := HL.out.size; simp; omega) _
  have HFin := Lib.hid hfin
  clear hfin
  go_wp2_with fail
  go_ret
  exact ⟨rfl, HFin.out⟩

theorem back_walk (x : FR) (hx : x.ty) (w : World) : Calls Try.prog 6 #[.agg x.cs] w fun e w' => e = .returned (.bool true) ∧ Below w.heap.size w w' := by
  by_cases hc : fchk x = 0
  · exact back_yes x hx hc w
  · exact back_no x hx hc w

end Go.Proofs.Ytnmbmogjgkgjjaa
