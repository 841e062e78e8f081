/- PacketRead: the walk; written by gen_pkx2.py. -/
import Derived.Test.YtnmbmogjgkgjjaaPkM
import Derived.Test.YtnmbmogjgkgjjaaPkR9
namespace Go.Proofs.Ytnmbmogjgkgjjaa
open Go.RowKit Go.Shelf
set_option linter.unusedVariables false
set_option linter.unusedSimpArgs false
set_option maxRecDepth 100000

set_option maxHeartbeats 2000000 in
theorem read7_big (A : Option Addr) (c n : Nat) (w : World) (hn : 300 < n) : Calls Try.prog 5 #[.slice A n c] w fun e w' => e = .returned (.bool true) ∧ Below w.heap.size w w' := by
  have e1 : (300 : Int) < (n : Int) := by omega
  go_enter Try.func5, Try.ntmps5
  go_wp2_with fail
  refine (lives7 _).mono ?_
  rintro e w1 ⟨rfl, hb⟩
  have HL := Lib.hid hb
  clear hb
  go_wp2_with fail
  go_ret
  exact ⟨rfl, HL.out⟩

set_option maxHeartbeats 4000000 in
theorem read7_small (A : Option Addr) (c : Nat) (bs : List Int) (w : World) (hA : Arr w (.slice A bs.length c) bs) (hby : ∀ v ∈ bs, 0 ≤ v ∧ v ≤ 255) (hn : bs.length ≤ 300) : Calls Try.prog 5 #[.slice A bs.length c] w fun e w' => e = .returned (.bool true) ∧ Below w.heap.size w w' := by
  obtain ⟨X, er, i, hf⟩ : ∃ (X : FR) (er i : Int), fread bs = (X, er, i) := ⟨_, _, _, rfl⟩
  have HRd : Hid (∀ (W : World) (v : Value), Arr W v bs → Calls Try.prog 11 #[v] W fun e w' => e = .returned (.tuple #[.agg #[.int .u64 X.s, .int .u64 X.d, .int .i64 X.k, .int .i64 X.op, .int .u64 X.sm, .int .u32 X.si, .int .u64 X.tm, .int .u32 X.ti, .int .u32 X.hs, .int .u32 X.hd, .int .i64 X.tl, .int .i64 X.pr, .int .i64 X.sp, .int .i64 X.dp, .int .u64 X.da], .agg #[.int .i64 er, .int .i64 i]]) ∧ Below W.heap.size W w') := Lib.hid (fun W v hv => by
    have h := read_any v bs W hv hby
    unfold ReadsTo at h
    rw [hf] at h
    exact h)
  have HRr : Hid (∀ W, Below w.heap.size w W → Calls Try.prog 20 #[.slice A bs.length c] W fun e w' => e = .returned (.tuple #[.agg #[.int .u64 X.s, .int .u64 X.d, .int .i64 X.k, .int .i64 X.op, .int .u64 X.sm, .int .u32 X.si, .int .u64 X.tm, .int .u32 X.ti, .int .u32 X.hs, .int .u32 X.hd, .int .i64 X.tl, .int .i64 X.pr, .int .i64 X.sp, .int .i64 X.dp, .int .u64 X.da], .agg #[.int .i64 er, .int .i64 i]]) ∧ Below W.heap.size W w') := Lib.hid (fun W hb => by
    have h := rread_any _ bs W (hA.below hb) (by omega) hby
    unfold ReadsTo at h
    rw [hf] at h
    exact h)
  have HOwn : Hid (∀ W, Below w.heap.size w W → Calls Try.prog 12 #[.slice A bs.length c] W fun e w' => ∃ v, e = .returned v ∧ Arr w' v bs ∧ Below W.heap.size W w') := Lib.hid (fun W hb => (own_any _ bs W (hA.below hb) (by omega)).mono (by
    rintro e w' ⟨⟨h7, c7, rfl, hr, _⟩, hb7⟩
    exact ⟨_, rfl, row_arr hr rfl, hb7⟩))
  have hEq := eql_fr X X
  rw [FR.same_self] at hEq
  simp only [FR.cs] at hEq
  have hFt := eql_ft er i er i
  simp only [beq_self_eq_true, Bool.and_self] at hFt
  obtain ⟨n, hne⟩ : ∃ n, bs.length = n := ⟨_, rfl⟩
  rw [hne] at HRr HOwn hn ⊢
  clear hne hA hby hf
  have e1 : ¬ ((300 : Int) < (n : Int)) := by omega
  go_enter Try.func5, Try.ntmps5
  go_wp2_with fail
  refine (lives7 _).mono ?_
  rintro e w1 ⟨rfl, hb⟩
  have HL := Lib.hid hb
  clear hb
  go_wp2_with fail
  refine (HOwn.out _ HL.out).mono ?_
  rintro e w2 ⟨v2, rfl, ha, hb⟩
  have HA2 := Lib.hid ha
  have HL2 := Lib.hid (HL.out.trans (hb.mono HL.out.size))
  clear ha hb HL
  go_wp2_with fail
  refine (HRd.out _ _ HA2.out).mono ?_
  rintro e w3 ⟨rfl, hb⟩
  have HL3 := Lib.hid (HL2.out.trans (hb.mono HL2.out.size))
  clear hb HA2 HL2
  obtain ⟨W4, hW4⟩ : ∃ W', ((w3.alloc (.cells #[.int .u64 X.s, .int .u64 X.d, .int .i64 X.k, .int .i64 X.op, .int .u64 X.sm, .int .u32 X.si, .int .u64 X.tm, .int .u32 X.ti, .int .u32 X.hs, .int .u32 X.hd, .int .i64 X.tl, .int .i64 X.pr, .int .i64 X.sp, .int .i64 X.dp, .int .u64 X.da] 36)).alloc (.cells #[.int .i64 er, .int .i64 i] 38)) = W' := ⟨_, rfl⟩
  have HL4 : Hid (Below w.heap.size w W4) := Lib.hid (hW4 ▸ (HL3.out.alloc HL3.out.size _).alloc (by have := HL3.out.size; simp; omega) _)
  have HX4 : Hid (Has W4 w3.heap.size 36 #[.int .u64 X.s, .int .u64 X.d, .int .i64 X.k, .int .i64 X.op, .int .u64 X.sm, .int .u32 X.si, .int .u64 X.tm, .int .u32 X.ti, .int .u32 X.hs, .int .u32 X.hd, .int .i64 X.tl, .int .i64 X.pr, .int .i64 X.sp, .int .i64 X.dp, .int .u64 X.da]) := Lib.hid (hW4 ▸ (Has.new w3 36 #[.int .u64 X.s, .int .u64 X.d, .int .i64 X.k, .int .i64 X.op, .int .u64 X.sm, .int .u32 X.si, .int .u64 X.tm, .int .u32 X.ti, .int .u32 X.hs, .int .u32 X.hd, .int .i64 X.tl, .int .i64 X.pr, .int .i64 X.sp, .int .i64 X.dp, .int .u64 X.da]).below ((Below.refl _ _).alloc (Nat.le_refl _) _))
  have HF4 : Hid (Has W4 (w3.heap.size + 1) 38 #[.int .i64 er, .int .i64 i]) := Lib.hid (by
    have h1 := Has.new (w3.alloc (.cells #[.int .u64 X.s, .int .u64 X.d, .int .i64 X.k, .int .i64 X.op, .int .u64 X.sm, .int .u32 X.si, .int .u64 X.tm, .int .u32 X.ti, .int .u32 X.hs, .int .u32 X.hd, .int .i64 X.tl, .int .i64 X.pr, .int .i64 X.sp, .int .i64 X.dp, .int .u64 X.da] 36)) 38 #[.int .i64 er, .int .i64 i]
    rw [World.size_alloc, hW4] at h1
    exact h1)
  clear HL3
  go_upto_region 6 with fail
  try rw [hW4]
  clear hW4
  go_wp2_with fail
  refine (HRr.out _ HL4.out).mono ?_
  rintro e w5 ⟨rfl, hb⟩
  have HL5 := Lib.hid (HL4.out.trans (hb.mono HL4.out.size))
  have HX5 := Lib.hid (HX4.out.below hb)
  have HF5 := Lib.hid (HF4.out.below hb)
  clear hb HL4 HX4 HF4
  obtain ⟨W6, hW6⟩ : ∃ W', ((w5.alloc (.cells #[.int .u64 X.s, .int .u64 X.d, .int .i64 X.k, .int .i64 X.op, .int .u64 X.sm, .int .u32 X.si, .int .u64 X.tm, .int .u32 X.ti, .int .u32 X.hs, .int .u32 X.hd, .int .i64 X.tl, .int .i64 X.pr, .int .i64 X.sp, .int .i64 X.dp, .int .u64 X.da] 36)).alloc (.cells #[.int .i64 er, .int .i64 i] 38)) = W' := ⟨_, rfl⟩
  have HL6 : Hid (Below w.heap.size w W6) := Lib.hid (hW6 ▸ (HL5.out.alloc HL5.out.size _).alloc (by have := HL5.out.size; simp; omega) _)
  have HX6 : Hid (Has W6 w5.heap.size 36 #[.int .u64 X.s, .int .u64 X.d, .int .i64 X.k, .int .i64 X.op, .int .u64 X.sm, .int .u32 X.si, .int .u64 X.tm, .int .u32 X.ti, .int .u32 X.hs, .int .u32 X.hd, .int .i64 X.tl, .int .i64 X.pr, .int .i64 X.sp, .int .i64 X.dp, .int .u64 X.da]) := Lib.hid (hW6 ▸ (Has.new w5 36 #[.int .u64 X.s, .int .u64 X.d, .int .i64 X.k, .int .i64 X.op, .int .u64 X.sm, .int .u32 X.si, .int .u64 X.tm, .int .u32 X.ti, .int .u32 X.hs, .int .u32 X.hd, .int .i64 X.tl, .int .i64 X.pr, .int .i64 X.sp, .int .i64 X.dp, .int .u64 X.da]).below ((Below.refl _ _).alloc (Nat.le_refl _) _))
  have HF6 : Hid (Has W6 (w5.heap.size + 1) 38 #[.int .i64 er, .int .i64 i]) := Lib.hid (by
    have h1 := Has.new (w5.alloc (.cells #[.int .u64 X.s, .int .u64 X.d, .int .i64 X.k, .int .i64 X.op, .int .u64 X.sm, .int .u32 X.si, .int .u64 X.tm, .int .u32 X.ti, .int .u32 X.hs, .int .u32 X.hd, .int .i64 X.tl, .int .i64 X.pr, .int .i64 X.sp, .int .i64 X.dp, .int .u64 X.da] 36)) 38 #[.int .i64 er, .int .i64 i]
    rw [World.size_alloc, hW6] at h1
    exact h1)
  have HX7 : Hid (Has W6 w3.heap.size 36 #[.int .u64 X.s, .int .u64 X.d, .int .i64 X.k, .int .i64 X.op, .int .u64 X.sm, .int .u32 X.si, .int .u64 X.tm, .int .u32 X.ti, .int .u32 X.hs, .int .u32 X.hd, .int .i64 X.tl, .int .i64 X.pr, .int .i64 X.sp, .int .i64 X.dp, .int .u64 X.da]) := Lib.hid (hW6 ▸ HX5.out.below (((Below.refl _ w5).alloc (Nat.le_refl _) _).alloc (by simp) _))
  have HF7 : Hid (Has W6 (w3.heap.size + 1) 38 #[.int .i64 er, .int .i64 i]) := Lib.hid (hW6 ▸ HF5.out.below (((Below.refl _ w5).alloc (Nat.le_refl _) _).alloc (by simp) _))
  clear HL5 HX5 HF5
  go_upto_region 7 with fail
  try rw [hW6]
  clear hW6
  have c0 := HX6.out.cell 0
  have c1 := HX6.out.cell 1
  have c2 := HX6.out.cell 2
  have c3 := HX6.out.cell 3
  have c4 := HX6.out.cell 4
  have c5 := HX6.out.cell 5
  have c6 := HX6.out.cell 6
  have c7 := HX6.out.cell 7
  have c8 := HX6.out.cell 8
  have c9 := HX6.out.cell 9
  have c10 := HX6.out.cell 10
  have c11 := HX6.out.cell 11
  have c12 := HX6.out.cell 12
  have c13 := HX6.out.cell 13
  have c14 := HX6.out.cell 14
  simp only [List.getElem?_toArray, List.getElem?_cons_zero, List.getElem?_cons_succ] at c0 c1 c2 c3 c4 c5 c6 c7 c8 c9 c10 c11 c12 c13 c14
  have d0 := HX7.out.cell 0
  have d1 := HX7.out.cell 1
  have d2 := HX7.out.cell 2
  have d3 := HX7.out.cell 3
  have d4 := HX7.out.cell 4
  have d5 := HX7.out.cell 5
  have d6 := HX7.out.cell 6
  have d7 := HX7.out.cell 7
  have d8 := HX7.out.cell 8
  have d9 := HX7.out.cell 9
  have d10 := HX7.out.cell 10
  have d11 := HX7.out.cell 11
  have d12 := HX7.out.cell 12
  have d13 := HX7.out.cell 13
  have d14 := HX7.out.cell 14
  simp only [List.getElem?_toArray, List.getElem?_cons_zero, List.getElem?_cons_succ] at d0 d1 d2 d3 d4 d5 d6 d7 d8 d9 d10 d11 d12 d13 d14
  have f0 := HF6.out.cell 0
  have f1 := HF6.out.cell 1
  have g0 := HF7.out.cell 0
  have g1 := HF7.out.cell 1
  simp only [List.getElem?_toArray, List.getElem?_cons_zero, List.getElem?_cons_succ] at f0 f1 g0 g1
  go_wp2_with fail
  go_ret
  exact ⟨rfl, HL6.out⟩

theorem read7_any (A : Option Addr) (c : Nat) (bs : List Int) (w : World) (hA : Arr w (.slice A bs.length c) bs) (hby : ∀ v ∈ bs, 0 ≤ v ∧ v ≤ 255) : Calls Try.prog 5 #[.slice A bs.length c] w fun e w' => e = .returned (.bool true) ∧ Below w.heap.size w w' := by
  by_cases hn : 300 < bs.length
  · exact read7_big A c _ w hn
  · exact read7_small A c bs w hA hby (by omega)

end Go.Proofs.Ytnmbmogjgkgjjaa
