/- VxlanRead: the walk; written by gen_vxx.py. -/
import Derived.Test.YtgdfpmnbofnjfaaZVxQ
import Derived.Test.YtgdfpmnbofnjfaaZVyG
namespace Go.Proofs.Ytgdfpmnbofnjfaa
open Go.RowKit Go.Shelf
set_option linter.unusedVariables false
set_option linter.unusedSimpArgs false
set_option maxRecDepth 100000

set_option maxHeartbeats 2000000 in
theorem vread8_big (A : Option Addr) (c n : Nat) (w : World) (hn : 300 < n) : Calls Try.prog 5 #[.slice A n c] w fun e w' => e = .returned (.bool true) ∧ Below w.heap.size w w' := by
  have e1 : (300 : Int) < (n : Int) := by omega
  go_enter Try.func5, Try.ntmps5
  go_wp2_with fail
  refine (lives8 _).mono ?_
  rintro e w1 ⟨rfl, hb⟩
  have HL := Lib.hid hb
  clear hb
  go_wp2_with fail
  go_ret
  exact ⟨rfl, HL.out⟩

set_option maxHeartbeats 4000000 in
theorem vread8_small (A : Option Addr) (c : Nat) (bs : List Int) (w : World) (hA : Arr w (.slice A bs.length c) bs) (hby : ∀ v ∈ bs, 0 ≤ v ∧ v ≤ 255) (hcap : bs.length ≤ c) (hn : bs.length ≤ 300) : Calls Try.prog 5 #[.slice A bs.length c] w fun e w' => e = .returned (.bool true) ∧ Below w.heap.size w w' := by
  obtain ⟨y, er, i, hf⟩ : ∃ (y : VP) (er i : Int), vread bs = (y, er, i) := ⟨_, _, _, rfl⟩
  obtain ⟨n, hne⟩ : ∃ n, bs.length = n := ⟨_, rfl⟩
  have HRd : Hid (∀ (W : World) (h7 c7 : Nat), Row W h7 c7 bs → Calls Try.prog 10 #[.slice (some ⟨h7, 0, none⟩) n c7] W fun e w' => e = .returned (.tuple #[.agg y.cs, .agg #[.int .i64 er, .int .i64 i]]) ∧ Below W.heap.size W w') := Lib.hid (fun W h7 c7 hr => by
    have hcp : bs.length ≤ c7 := by
      obtain ⟨_, _, _, _, h4, _⟩ := hr
      exact h4
    have h := vread_any (some ⟨h7, 0, none⟩) c7 bs W (row_arr hr rfl) hby (by omega) hcp
    unfold VReads at h
    rw [hf, hne] at h
    exact h)
  have HRr : Hid (∀ W, Below w.heap.size w W → Calls Try.prog 21 #[.slice A n c] W fun e w' => e = .returned (.tuple #[.agg y.cs, .agg #[.int .i64 er, .int .i64 i]]) ∧ Below W.heap.size W w') := Lib.hid (fun W hb => by
    have h := rvread_any A c bs W (hA.below hb) hby (by omega) hcap
    unfold VReads at h
    rw [hf, hne] at h
    exact h)
  have HOwn : Hid (∀ W, Below w.heap.size w W → Calls Try.prog 13 #[.slice A n c] W fun e w' => ∃ h7 c7, e = .returned (.slice (some ⟨h7, 0, none⟩) n c7) ∧ Row w' h7 c7 bs ∧ Below W.heap.size W w') := Lib.hid (fun W hb => (hne ▸ own_any _ bs W (hA.below hb) (by omega)).mono (by
    rintro e w' ⟨⟨h7, c7, rfl, hr, _⟩, hb7⟩
    exact ⟨h7, c7, rfl, hr, hb7⟩))
  have hEq := eql_self y
  have hFt := eql_ft er i er i
  simp only [beq_self_eq_true, Bool.and_self] at hFt
  rw [hne] at hn ⊢
  clear hne hA hby hf hcap
  have e1 : ¬ ((300 : Int) < (n : Int)) := by omega
  go_enter Try.func5, Try.ntmps5
  go_wp2_with fail
  refine (lives8 _).mono ?_
  rintro e w1 ⟨rfl, hb⟩
  have HL := Lib.hid hb
  clear hb
  go_wp2_with fail
  refine (HOwn.out _ HL.out).mono ?_
  rintro e w2 ⟨h7, c7, rfl, hr, hb⟩
  have HA2 := Lib.hid hr
  have HL2 := Lib.hid (HL.out.trans (hb.mono HL.out.size))
  clear hr hb HL
  go_wp2_with fail
  refine (HRd.out _ _ _ HA2.out).mono ?_
  rintro e w3 ⟨rfl, hb⟩
  have HL3 := Lib.hid (HL2.out.trans (hb.mono HL2.out.size))
  clear hb HA2 HL2
  have HSa : Hid (VRW w3 vp0 0 0 ((w3.alloc (.cells #[.int .u32 0, .int .u32 0, .int .i64 0, .int .i64 0, .int .u32 0, .int .u32 0, .int .u64 0, .int .u64 0, .int .i64 0, .int .i64 0, .int .u64 0, .int .u32 0, .int .u64 0, .int .u32 0, .int .u32 0, .int .u32 0, .int .i64 0, .int .i64 0, .int .i64 0, .int .i64 0, .int .u64 0] 34)).alloc (.cells #[.int .i64 0, .int .i64 0] 37))) := Lib.hid (VRW.start w3)
  go_upto_region 6 with (refine wpList_store_row rfl 34 (.tmp 3) (.tmp 16) rfl w3.heap.size y.cs rfl rfl 34 vp0.cs HSa.out.zer (VP.fit y) rfl (VP.one y) ?_; have HTa := Lib.hid (HSa.out.row y); generalize ((w3.alloc (.cells #[.int .u32 0, .int .u32 0, .int .i64 0, .int .i64 0, .int .u32 0, .int .u32 0, .int .u64 0, .int .u64 0, .int .i64 0, .int .i64 0, .int .u64 0, .int .u32 0, .int .u64 0, .int .u32 0, .int .u32 0, .int .u32 0, .int .i64 0, .int .i64 0, .int .i64 0, .int .i64 0, .int .u64 0] 34)).alloc (.cells #[.int .i64 0, .int .i64 0] 37)).setRow w3.heap.size y.cs = Ta at HTa ⊢; have q0 := HTa.out.flt.cell 0; have q1 := HTa.out.flt.cell 1; have p0 := HTa.out.flt.free 0; have p1 := HTa.out.flt.free 1; simp only [List.getElem?_toArray, List.getElem?_cons_zero, List.getElem?_cons_succ] at q0 q1)
  have HUa := Lib.hid (HTa.out.set er i)
  obtain ⟨Ua, hUa⟩ : ∃ U, ((Ta.setCell ⟨w3.heap.size + 1, 0, none⟩ (.int .i64 er)).setCell ⟨w3.heap.size + 1, 1, none⟩ (.int .i64 i)) = U := ⟨_, rfl⟩
  rw [hUa] at HUa
  try rw [hUa]
  clear hUa q0 q1 p0 p1 HSa HTa
  have z0 := HUa.out.flt.cell 0
  have z1 := HUa.out.flt.cell 1
  simp only [List.getElem?_toArray, List.getElem?_cons_zero, List.getElem?_cons_succ] at z0 z1
  have HL4 := Lib.hid (HL3.out.trans (HUa.out.lo.mono HL3.out.size))
  clear HL3 z0 z1
  go_wp2_with fail
  refine (HRr.out _ HL4.out).mono ?_
  rintro e w5 ⟨rfl, hb⟩
  have HL5 := Lib.hid (HL4.out.trans (hb.mono HL4.out.size))
  have HV5 := Lib.hid (HUa.out.below hb)
  clear hb HL4 HUa
  have HSb : Hid (VRW w5 vp0 0 0 ((w5.alloc (.cells #[.int .u32 0, .int .u32 0, .int .i64 0, .int .i64 0, .int .u32 0, .int .u32 0, .int .u64 0, .int .u64 0, .int .i64 0, .int .i64 0, .int .u64 0, .int .u32 0, .int .u64 0, .int .u32 0, .int .u32 0, .int .u32 0, .int .i64 0, .int .i64 0, .int .i64 0, .int .i64 0, .int .u64 0] 34)).alloc (.cells #[.int .i64 0, .int .i64 0] 37))) := Lib.hid (VRW.start w5)
  go_upto_region 7 with (refine wpList_store_row rfl 34 (.tmp 5) (.tmp 21) rfl w5.heap.size y.cs rfl rfl 34 vp0.cs HSb.out.zer (VP.fit y) rfl (VP.one y) ?_; have HTb := Lib.hid (HSb.out.row y); generalize ((w5.alloc (.cells #[.int .u32 0, .int .u32 0, .int .i64 0, .int .i64 0, .int .u32 0, .int .u32 0, .int .u64 0, .int .u64 0, .int .i64 0, .int .i64 0, .int .u64 0, .int .u32 0, .int .u64 0, .int .u32 0, .int .u32 0, .int .u32 0, .int .i64 0, .int .i64 0, .int .i64 0, .int .i64 0, .int .u64 0] 34)).alloc (.cells #[.int .i64 0, .int .i64 0] 37)).setRow w5.heap.size y.cs = Tb at HTb ⊢; have q0 := HTb.out.flt.cell 0; have q1 := HTb.out.flt.cell 1; have p0 := HTb.out.flt.free 0; have p1 := HTb.out.flt.free 1; simp only [List.getElem?_toArray, List.getElem?_cons_zero, List.getElem?_cons_succ] at q0 q1)
  have HUb := Lib.hid (HTb.out.set er i)
  obtain ⟨Ub, hUb⟩ : ∃ U, ((Tb.setCell ⟨w5.heap.size + 1, 0, none⟩ (.int .i64 er)).setCell ⟨w5.heap.size + 1, 1, none⟩ (.int .i64 i)) = U := ⟨_, rfl⟩
  rw [hUb] at HUb
  try rw [hUb]
  clear hUb q0 q1 p0 p1 HSb HTb
  have z0 := HUb.out.flt.cell 0
  have z1 := HUb.out.flt.cell 1
  simp only [List.getElem?_toArray, List.getElem?_cons_zero, List.getElem?_cons_succ] at z0 z1
  have HL6 := Lib.hid (HL5.out.trans (HUb.out.lo.mono HL5.out.size))
  have HV6 := Lib.hid (HV5.out.below HUb.out.lo)
  clear HL5 HV5
  have x0 := HV6.out.flt.cell 0
  have x1 := HV6.out.flt.cell 1
  simp only [List.getElem?_toArray, List.getElem?_cons_zero, List.getElem?_cons_succ] at x0 x1
  go_wp2_with (first | (refine wpList_load_row rfl 34 (.tmp 3) rfl w3.heap.size rfl 34 y.cs (0, 0) _ HV6.out.zer Try.underlying34 rfl y.fit ?_) | (refine wpList_load_row rfl 34 (.tmp 5) rfl w5.heap.size rfl 34 y.cs (0, 0) _ HUb.out.zer Try.underlying34 rfl y.fit ?_))
  go_ret
  exact ⟨rfl, HL6.out⟩

theorem vread8_any (A : Option Addr) (c : Nat) (bs : List Int) (w : World) (hA : Arr w (.slice A bs.length c) bs) (hby : ∀ v ∈ bs, 0 ≤ v ∧ v ≤ 255) (hcap : bs.length ≤ c) : Calls Try.prog 5 #[.slice A bs.length c] w fun e w' => e = .returned (.bool true) ∧ Below w.heap.size w w' := by
  by_cases hn : 300 < bs.length
  · exact vread8_big A c _ w hn
  · exact vread8_small A c bs w hA hby hcap (by omega)

end Go.Proofs.Ytgdfpmnbofnjfaa
