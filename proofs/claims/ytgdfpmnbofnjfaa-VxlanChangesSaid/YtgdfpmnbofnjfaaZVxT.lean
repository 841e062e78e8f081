/- VxlanChanges: the walk; written by gen_vxt.py. -/
import Derived.Test.YtgdfpmnbofnjfaaZVxQ
namespace Go.Proofs.Ytgdfpmnbofnjfaa
open Go.RowKit Go.Shelf
set_option linter.unusedVariables false
set_option linter.unusedSimpArgs false
set_option maxRecDepth 100000

set_option maxHeartbeats 2000000 in
theorem vch_no (x : VP) (hx : x.ty) (l : Int) (u : Int) (hc : vchk x ≠ 0) (w : World) :
    Calls Try.prog 8 #[.agg x.cs, .int .i64 l, .int .u8 u] w fun e w' => e = .returned (.bool true) ∧ Below w.heap.size w w' := by
  obtain ⟨ec, hec⟩ : ∃ ec, vchk x = ec := ⟨_, rfl⟩
  have HBy : Hid (∀ W : World, Calls Try.prog 11 #[.agg x.cs] W fun e w' => e = .returned (.tuple #[.slice none 0 0, .int .i64 ec]) ∧ Below W.heap.size W w') := Lib.hid (fun W => hec ▸ vbytes_no x hx hc W)
  have hne : (ec != 0) = true := by rw [hec] at hc; simpa using hc
  clear hec hc hx
  have HX : Hid (Has (w.alloc (.cells x.cs 34)) w.heap.size 34 x.cs) := Lib.hid (Has.new _ _ _)
  have HB : Hid (Below w.heap.size w (w.alloc (.cells x.cs 34))) := Lib.hid ((Below.refl _ w).alloc (Nat.le_refl _) _)
  go_enter Try.func8, Try.ntmps8
  go_wp2_with fail
  refine (lives8 _).mono ?_
  rintro e w1 ⟨rfl, hb⟩
  have HX1 := Lib.hid (HX.out.below hb)
  have HB1 := Lib.hid (HB.out.trans (hb.mono HB.out.size))
  clear hb HB HX
  go_wp2_with (first | (refine wpList_load_row rfl 34 (.tmp 3) rfl w.heap.size rfl 34 x.cs (0, 0) _ HX1.out Try.underlying34 rfl x.fit ?_))
  refine (HBy.out _).mono ?_
  rintro e w2 ⟨rfl, hb⟩
  have HB2 := Lib.hid (HB1.out.trans (hb.mono HB1.out.size))
  clear hb HB1
  go_wp2_with fail
  go_ret
  exact ⟨rfl, HB2.out⟩

set_option maxHeartbeats 4000000 in
theorem vch_same (x : VP) (hx : x.ty) (l : Int) (u : Int) (hu : 0 ≤ u ∧ u ≤ 255) (hc : vchk x = 0) (n : Nat) (hn : l % 36 = n) (hn2 : n < 36) (hla : n < (venc x).length) (he : u = (venc x)[n]) (w : World) :
    Calls Try.prog 8 #[.agg x.cs, .int .i64 l, .int .u8 u] w fun e w' => e = .returned (.bool true) ∧ Below w.heap.size w w' := by
  have hby2 : ∀ v ∈ (venc x).set n u, 0 ≤ v ∧ v ≤ 255 := fun v hv => by
    rcases List.mem_or_eq_of_mem_set hv with h | rfl
    · exact venc_byte x v h
    · exact hu
  obtain ⟨m, hmm⟩ : ∃ m, (venc x).length = m := ⟨_, rfl⟩
  have hm36 : 36 ≤ m ∧ m ≤ 100 := by rw [← hmm, venc_len]; have := fenc_len x.f; omega
  have HBy : Hid (∀ W : World, Calls Try.prog 11 #[.agg x.cs] W fun e w' => ∃ b c, e = .returned (.tuple #[.slice (some ⟨b, 0, none⟩) m c, .int .i64 0]) ∧ Row w' b c (venc x) ∧ W.heap.size ≤ b ∧ Below W.heap.size W w') := Lib.hid (fun W => hmm ▸ vbytes_yes x hx hc W)
  have hrd : vread ((venc x).set n u) = (x, 0, 0) := by rw [he, List.set_getElem_self]; exact vread_enc hx hc
  have HRx : Hid (∀ (b c : Nat) (W : World), Row W b c ((venc x).set n u) → Calls Try.prog 10 #[.slice (some ⟨b, 0, none⟩) m c] W fun e w' => e = .returned (.tuple #[.agg x.cs, .agg #[.int .i64 0, .int .i64 0]]) ∧ Below W.heap.size W w') := Lib.hid (fun b c W hr => by
    have hl : ((venc x).set n u).length = m := by rw [List.length_set]; exact hmm
    have hcap : ((venc x).set n u).length ≤ c := by
      obtain ⟨_, _, _, _, h4, _⟩ := hr
      exact h4
    have h := vread_any (some ⟨b, 0, none⟩) c ((venc x).set n u) W (row_arr hr rfl) hby2 (by rw [hl]; omega) hcap
    unfold VReads at h
    rw [hrd, hl] at h
    exact h)
  obtain ⟨was, hwas⟩ : ∃ y, (venc x)[n] = y := ⟨_, rfl⟩
  have hq : (u == was) = true := by rw [hwas] at he; simpa using he
  have hft := eql_ft 0 0 0 0
  have hex := eql_self x
  have HWas := Lib.hid hwas
  have HM := Lib.hid hmm
  have HLa := Lib.hid hla
  have HN := Lib.hid hn
  obtain ⟨hu0, hu1⟩ := hu
  obtain ⟨hm1, hm2⟩ := hm36
  have hnm : (n : Int) < (m : Int) := by omega
  have hn0 : (0 : Int) ≤ (n : Int) := by omega
  have hm3 : ¬ ((m : Int) < 36) := by omega
  have hBy := venc_byte x
  have HVb := Lib.hid hBy
  clear hBy hmm hc hx hn hwas hby2 he hrd
  have HX : Hid (Has (w.alloc (.cells x.cs 34)) w.heap.size 34 x.cs) := Lib.hid (Has.new _ _ _)
  have HB : Hid (Below w.heap.size w (w.alloc (.cells x.cs 34))) := Lib.hid ((Below.refl _ w).alloc (Nat.le_refl _) _)
  have HSz : Hid ((w.alloc (.cells x.cs 34)).heap.size = w.heap.size + 1) := Lib.hid (by simp)
  go_enter Try.func8, Try.ntmps8
  go_wp2_with fail
  refine (lives8 _).mono ?_
  rintro e w1 ⟨rfl, hb⟩
  have HX1 := Lib.hid (HX.out.below hb)
  have HB1 := Lib.hid (HB.out.trans (hb.mono HB.out.size))
  clear hb HB HX HSz
  go_wp2_with (first | (refine wpList_load_row rfl 34 (.tmp 3) rfl w.heap.size rfl 34 x.cs (0, 0) _ HX1.out Try.underlying34 rfl x.fit ?_))
  refine (HBy.out _).mono ?_
  rintro e w2 ⟨xb, xc, rfl, hrow, hxb, hb⟩
  have HX2 := Lib.hid (HX1.out.below hb)
  have HB2 := Lib.hid (HB1.out.trans (hb.mono HB1.out.size))
  have HG : Hid (w.heap.size < xb) := Lib.hid (by have := HX1.out.lt; omega)
  have HR2 := Lib.hid hrow
  clear hb HB1 HX1 hrow hxb
  go_wp2_with fail
  refine (pick_any l 36 (by decide) (by decide) _).mono ?_
  rintro e w9 ⟨rfl, rfl⟩
  rw [HN.out]
  have hcell := HR2.out.cell n HLa.out
  rw [HWas.out] at hcell
  have hwb : 0 ≤ was ∧ was ≤ 255 := by rw [← HWas.out]; exact HVb.out _ (List.getElem_mem HLa.out)
  obtain ⟨hwb0, hwb1⟩ := hwb
  have hfr : w2.frozen? ⟨xb, n, none⟩ = false := by
    obtain ⟨_, h1, _⟩ := HR2.out
    exact h1.free _
  have HR3 := Lib.hid (HR2.out.set_ n u)
  have HB3 : Hid (Below w.heap.size w (w2.setCell ⟨xb, n, none⟩ (.int .u8 u))) := Lib.hid (HB2.out.setCell (p := ⟨xb, n, none⟩) (Nat.le_of_lt HG.out) _)
  have HX3 : Hid (Has (w2.setCell ⟨xb, n, none⟩ (.int .u8 u)) w.heap.size 34 x.cs) := Lib.hid (HX2.out.grown (only_set (only_refl w2 xb) (p := ⟨xb, n, none⟩) (.inl rfl) _) (by intro h9; injection h9 with h9; have := HG.out; omega))
  go_wp2_with fail
  refine (HRx.out _ _ _ HR3.out).mono ?_
  rintro e w4 ⟨rfl, hb⟩
  have HX4 := Lib.hid (HX3.out.below hb)
  have HB4 := Lib.hid (HB3.out.trans (hb.mono HB3.out.size))
  clear hb HB3 HX3 HR3 HR2 hcell hfr HB2 HX2
  have HSa : Hid (VRW w4 vp0 0 0 ((w4.alloc (.cells #[.int .u32 0, .int .u32 0, .int .i64 0, .int .i64 0, .int .u32 0, .int .u32 0, .int .u64 0, .int .u64 0, .int .i64 0, .int .i64 0, .int .u64 0, .int .u32 0, .int .u64 0, .int .u32 0, .int .u32 0, .int .u32 0, .int .i64 0, .int .i64 0, .int .i64 0, .int .i64 0, .int .u64 0] 34)).alloc (.cells #[.int .i64 0, .int .i64 0] 37))) := Lib.hid (VRW.start w4)
  go_upto_region 10 with (refine wpList_store_row rfl 34 (.tmp 10) (.tmp 41) rfl w4.heap.size x.cs rfl rfl 34 vp0.cs HSa.out.zer (VP.fit x) rfl (VP.one x) ?_; have HTa := Lib.hid (HSa.out.row x); generalize ((w4.alloc (.cells #[.int .u32 0, .int .u32 0, .int .i64 0, .int .i64 0, .int .u32 0, .int .u32 0, .int .u64 0, .int .u64 0, .int .i64 0, .int .i64 0, .int .u64 0, .int .u32 0, .int .u64 0, .int .u32 0, .int .u32 0, .int .u32 0, .int .i64 0, .int .i64 0, .int .i64 0, .int .i64 0, .int .u64 0] 34)).alloc (.cells #[.int .i64 0, .int .i64 0] 37)).setRow w4.heap.size x.cs = Ta at HTa ⊢; have q0 := HTa.out.flt.cell 0; have q1 := HTa.out.flt.cell 1; have p0 := HTa.out.flt.free 0; have p1 := HTa.out.flt.free 1; simp only [List.getElem?_toArray, List.getElem?_cons_zero, List.getElem?_cons_succ] at q0 q1)
  have HUa := Lib.hid (HTa.out.set 0 0)
  obtain ⟨Ua, hUa⟩ : ∃ U, ((Ta.setCell ⟨w4.heap.size + 1, 0, none⟩ (.int .i64 0)).setCell ⟨w4.heap.size + 1, 1, none⟩ (.int .i64 0)) = U := ⟨_, rfl⟩
  rw [hUa] at HUa
  try rw [hUa]
  clear hUa q0 q1 p0 p1 HSa HTa
  have z0 := HUa.out.flt.cell 0
  have z1 := HUa.out.flt.cell 1
  simp only [List.getElem?_toArray, List.getElem?_cons_zero, List.getElem?_cons_succ] at z0 z1
  have HX5 := Lib.hid (HX4.out.below HUa.out.lo)
  have HB5 := Lib.hid (HB4.out.trans (HUa.out.lo.mono HB4.out.size))
  clear HX4 HB4
  go_wp2_with (first | (refine wpList_load_rowg (by rfl) 34 (.tmp 10) rfl w4.heap.size rfl 34 x.cs (0, 0) _ HUa.out.zer Try.underlying34 rfl x.fit ?_) | (refine wpList_load_rowg (by rfl) 34 (.tmp 3) rfl w.heap.size rfl 34 x.cs (0, 0) _ HX5.out Try.underlying34 rfl x.fit ?_))
  go_ret
  exact ⟨rfl, HB5.out⟩

set_option maxHeartbeats 4000000 in
theorem vch_bad0 (x : VP) (hx : x.ty) (l : Int) (u : Int) (hu : 0 ≤ u ∧ u ≤ 255) (hc : vchk x = 0) (n : Nat) (hn : l % 36 = n) (hn2 : n < 36) (hla : n < (venc x).length) (he : u ≠ (venc x)[n]) (hr : n < 20) (w : World) :
    Calls Try.prog 8 #[.agg x.cs, .int .i64 l, .int .u8 u] w fun e w' => e = .returned (.bool true) ∧ Below w.heap.size w w' := by
  have hby2 : ∀ v ∈ (venc x).set n u, 0 ≤ v ∧ v ≤ 255 := fun v hv => by
    rcases List.mem_or_eq_of_mem_set hv with h | rfl
    · exact venc_byte x v h
    · exact hu
  obtain ⟨m, hmm⟩ : ∃ m, (venc x).length = m := ⟨_, rfl⟩
  have hm36 : 36 ≤ m ∧ m ≤ 100 := by rw [← hmm, venc_len]; have := fenc_len x.f; omega
  have HBy : Hid (∀ W : World, Calls Try.prog 11 #[.agg x.cs] W fun e w' => ∃ b c, e = .returned (.tuple #[.slice (some ⟨b, 0, none⟩) m c, .int .i64 0]) ∧ Row w' b c (venc x) ∧ W.heap.size ≤ b ∧ Below W.heap.size W w') := Lib.hid (fun W => hmm ▸ vbytes_yes x hx hc W)
  have hbad := vchange_no n (.inl hr) hla u hu.1 hu.2 he
  obtain ⟨hv0, _, _⟩ := vread_bad hbad
  obtain ⟨er, her⟩ : ∃ er, (vread ((venc x).set n u)).2.1 = er := ⟨_, rfl⟩
  obtain ⟨i, hi⟩ : ∃ i, (vread ((venc x).set n u)).2.2 = i := ⟨_, rfl⟩
  have hrd : vread ((venc x).set n u) = (vp0, er, i) := by rw [← hv0, ← her, ← hi]
  rw [her] at hbad
  have HRx : Hid (∀ (b c : Nat) (W : World), Row W b c ((venc x).set n u) → Calls Try.prog 10 #[.slice (some ⟨b, 0, none⟩) m c] W fun e w' => e = .returned (.tuple #[.agg vp0.cs, .agg #[.int .i64 er, .int .i64 i]]) ∧ Below W.heap.size W w') := Lib.hid (fun b c W hr => by
    have hl : ((venc x).set n u).length = m := by rw [List.length_set]; exact hmm
    have hcap : ((venc x).set n u).length ≤ c := by
      obtain ⟨_, _, _, _, h4, _⟩ := hr
      exact h4
    have h := vread_any (some ⟨b, 0, none⟩) c ((venc x).set n u) W (row_arr hr rfl) hby2 (by rw [hl]; omega) hcap
    unfold VReads at h
    rw [hrd, hl] at h
    exact h)
  obtain ⟨was, hwas⟩ : ∃ y, (venc x)[n] = y := ⟨_, rfl⟩
  have hq : (u == was) = false := by rw [hwas] at he; simpa using he
  have hne : (er != 0) = true := by simpa using hbad
  have hez := eqz
  have t1 : (n : Int) < 20 := by omega
  have HWas := Lib.hid hwas
  have HM := Lib.hid hmm
  have HLa := Lib.hid hla
  have HN := Lib.hid hn
  obtain ⟨hu0, hu1⟩ := hu
  obtain ⟨hm1, hm2⟩ := hm36
  have hnm : (n : Int) < (m : Int) := by omega
  have hn0 : (0 : Int) ≤ (n : Int) := by omega
  have hm3 : ¬ ((m : Int) < 36) := by omega
  have hBy := venc_byte x
  have HVb := Lib.hid hBy
  clear hBy hmm hc hx hn hwas hby2 he hrd hr hv0 her hi hbad
  have HX : Hid (Has (w.alloc (.cells x.cs 34)) w.heap.size 34 x.cs) := Lib.hid (Has.new _ _ _)
  have HB : Hid (Below w.heap.size w (w.alloc (.cells x.cs 34))) := Lib.hid ((Below.refl _ w).alloc (Nat.le_refl _) _)
  have HSz : Hid ((w.alloc (.cells x.cs 34)).heap.size = w.heap.size + 1) := Lib.hid (by simp)
  go_enter Try.func8, Try.ntmps8
  go_wp2_with fail
  refine (lives8 _).mono ?_
  rintro e w1 ⟨rfl, hb⟩
  have HX1 := Lib.hid (HX.out.below hb)
  have HB1 := Lib.hid (HB.out.trans (hb.mono HB.out.size))
  clear hb HB HX HSz
  go_wp2_with (first | (refine wpList_load_row rfl 34 (.tmp 3) rfl w.heap.size rfl 34 x.cs (0, 0) _ HX1.out Try.underlying34 rfl x.fit ?_))
  refine (HBy.out _).mono ?_
  rintro e w2 ⟨xb, xc, rfl, hrow, hxb, hb⟩
  have HX2 := Lib.hid (HX1.out.below hb)
  have HB2 := Lib.hid (HB1.out.trans (hb.mono HB1.out.size))
  have HG : Hid (w.heap.size < xb) := Lib.hid (by have := HX1.out.lt; omega)
  have HR2 := Lib.hid hrow
  clear hb HB1 HX1 hrow hxb
  go_wp2_with fail
  refine (pick_any l 36 (by decide) (by decide) _).mono ?_
  rintro e w9 ⟨rfl, rfl⟩
  rw [HN.out]
  have hcell := HR2.out.cell n HLa.out
  rw [HWas.out] at hcell
  have hwb : 0 ≤ was ∧ was ≤ 255 := by rw [← HWas.out]; exact HVb.out _ (List.getElem_mem HLa.out)
  obtain ⟨hwb0, hwb1⟩ := hwb
  have hfr : w2.frozen? ⟨xb, n, none⟩ = false := by
    obtain ⟨_, h1, _⟩ := HR2.out
    exact h1.free _
  have HR3 := Lib.hid (HR2.out.set_ n u)
  have HB3 : Hid (Below w.heap.size w (w2.setCell ⟨xb, n, none⟩ (.int .u8 u))) := Lib.hid (HB2.out.setCell (p := ⟨xb, n, none⟩) (Nat.le_of_lt HG.out) _)
  have HX3 : Hid (Has (w2.setCell ⟨xb, n, none⟩ (.int .u8 u)) w.heap.size 34 x.cs) := Lib.hid (HX2.out.grown (only_set (only_refl w2 xb) (p := ⟨xb, n, none⟩) (.inl rfl) _) (by intro h9; injection h9 with h9; have := HG.out; omega))
  go_wp2_with fail
  refine (HRx.out _ _ _ HR3.out).mono ?_
  rintro e w4 ⟨rfl, hb⟩
  have HX4 := Lib.hid (HX3.out.below hb)
  have HB4 := Lib.hid (HB3.out.trans (hb.mono HB3.out.size))
  clear hb HB3 HX3 HR3 HR2 hcell hfr HB2 HX2
  have HSa : Hid (VRW w4 vp0 0 0 ((w4.alloc (.cells #[.int .u32 0, .int .u32 0, .int .i64 0, .int .i64 0, .int .u32 0, .int .u32 0, .int .u64 0, .int .u64 0, .int .i64 0, .int .i64 0, .int .u64 0, .int .u32 0, .int .u64 0, .int .u32 0, .int .u32 0, .int .u32 0, .int .i64 0, .int .i64 0, .int .i64 0, .int .i64 0, .int .u64 0] 34)).alloc (.cells #[.int .i64 0, .int .i64 0] 37))) := Lib.hid (VRW.start w4)
  go_upto_region 10 with (refine wpList_store_row rfl 34 (.tmp 10) (.tmp 41) rfl w4.heap.size vp0.cs rfl rfl 34 vp0.cs HSa.out.zer (VP.fit vp0) rfl (VP.one vp0) ?_; have HTa := Lib.hid (HSa.out.row vp0); generalize ((w4.alloc (.cells #[.int .u32 0, .int .u32 0, .int .i64 0, .int .i64 0, .int .u32 0, .int .u32 0, .int .u64 0, .int .u64 0, .int .i64 0, .int .i64 0, .int .u64 0, .int .u32 0, .int .u64 0, .int .u32 0, .int .u32 0, .int .u32 0, .int .i64 0, .int .i64 0, .int .i64 0, .int .i64 0, .int .u64 0] 34)).alloc (.cells #[.int .i64 0, .int .i64 0] 37)).setRow w4.heap.size vp0.cs = Ta at HTa ⊢; have q0 := HTa.out.flt.cell 0; have q1 := HTa.out.flt.cell 1; have p0 := HTa.out.flt.free 0; have p1 := HTa.out.flt.free 1; simp only [List.getElem?_toArray, List.getElem?_cons_zero, List.getElem?_cons_succ] at q0 q1)
  have HUa := Lib.hid (HTa.out.set er i)
  obtain ⟨Ua, hUa⟩ : ∃ U, ((Ta.setCell ⟨w4.heap.size + 1, 0, none⟩ (.int .i64 er)).setCell ⟨w4.heap.size + 1, 1, none⟩ (.int .i64 i)) = U := ⟨_, rfl⟩
  rw [hUa] at HUa
  try rw [hUa]
  clear hUa q0 q1 p0 p1 HSa HTa
  have z0 := HUa.out.flt.cell 0
  have z1 := HUa.out.flt.cell 1
  simp only [List.getElem?_toArray, List.getElem?_cons_zero, List.getElem?_cons_succ] at z0 z1
  have HX5 := Lib.hid (HX4.out.below HUa.out.lo)
  have HB5 := Lib.hid (HB4.out.trans (HUa.out.lo.mono HB4.out.size))
  clear HX4 HB4
  go_wp2_with (first | (refine wpList_load_rowg (by rfl) 34 (.tmp 10) rfl w4.heap.size rfl 34 vp0.cs (0, 0) _ HUa.out.zer Try.underlying34 rfl vp0.fit ?_))
  go_ret
  exact ⟨rfl, HB5.out⟩

set_option maxHeartbeats 4000000 in
theorem vch_bad1 (x : VP) (hx : x.ty) (l : Int) (u : Int) (hu : 0 ≤ u ∧ u ≤ 255) (hc : vchk x = 0) (n : Nat) (hn : l % 36 = n) (hn2 : n < 36) (hla : n < (venc x).length) (he : u ≠ (venc x)[n]) (hr : 22 ≤ n ∧ n ≤ 28) (w : World) :
    Calls Try.prog 8 #[.agg x.cs, .int .i64 l, .int .u8 u] w fun e w' => e = .returned (.bool true) ∧ Below w.heap.size w w' := by
  have hby2 : ∀ v ∈ (venc x).set n u, 0 ≤ v ∧ v ≤ 255 := fun v hv => by
    rcases List.mem_or_eq_of_mem_set hv with h | rfl
    · exact venc_byte x v h
    · exact hu
  obtain ⟨m, hmm⟩ : ∃ m, (venc x).length = m := ⟨_, rfl⟩
  have hm36 : 36 ≤ m ∧ m ≤ 100 := by rw [← hmm, venc_len]; have := fenc_len x.f; omega
  have HBy : Hid (∀ W : World, Calls Try.prog 11 #[.agg x.cs] W fun e w' => ∃ b c, e = .returned (.tuple #[.slice (some ⟨b, 0, none⟩) m c, .int .i64 0]) ∧ Row w' b c (venc x) ∧ W.heap.size ≤ b ∧ Below W.heap.size W w') := Lib.hid (fun W => hmm ▸ vbytes_yes x hx hc W)
  have hbad := vchange_no n (.inr (.inl hr)) hla u hu.1 hu.2 he
  obtain ⟨hv0, _, _⟩ := vread_bad hbad
  obtain ⟨er, her⟩ : ∃ er, (vread ((venc x).set n u)).2.1 = er := ⟨_, rfl⟩
  obtain ⟨i, hi⟩ : ∃ i, (vread ((venc x).set n u)).2.2 = i := ⟨_, rfl⟩
  have hrd : vread ((venc x).set n u) = (vp0, er, i) := by rw [← hv0, ← her, ← hi]
  rw [her] at hbad
  have HRx : Hid (∀ (b c : Nat) (W : World), Row W b c ((venc x).set n u) → Calls Try.prog 10 #[.slice (some ⟨b, 0, none⟩) m c] W fun e w' => e = .returned (.tuple #[.agg vp0.cs, .agg #[.int .i64 er, .int .i64 i]]) ∧ Below W.heap.size W w') := Lib.hid (fun b c W hr => by
    have hl : ((venc x).set n u).length = m := by rw [List.length_set]; exact hmm
    have hcap : ((venc x).set n u).length ≤ c := by
      obtain ⟨_, _, _, _, h4, _⟩ := hr
      exact h4
    have h := vread_any (some ⟨b, 0, none⟩) c ((venc x).set n u) W (row_arr hr rfl) hby2 (by rw [hl]; omega) hcap
    unfold VReads at h
    rw [hrd, hl] at h
    exact h)
  obtain ⟨was, hwas⟩ : ∃ y, (venc x)[n] = y := ⟨_, rfl⟩
  have hq : (u == was) = false := by rw [hwas] at he; simpa using he
  have hne : (er != 0) = true := by simpa using hbad
  have hez := eqz
  have t1 : ¬ ((n : Int) < 20) := by omega
  have t2 : (21 : Int) < (n : Int) := by omega
  have t3 : (n : Int) < 29 := by omega
  have HWas := Lib.hid hwas
  have HM := Lib.hid hmm
  have HLa := Lib.hid hla
  have HN := Lib.hid hn
  obtain ⟨hu0, hu1⟩ := hu
  obtain ⟨hm1, hm2⟩ := hm36
  have hnm : (n : Int) < (m : Int) := by omega
  have hn0 : (0 : Int) ≤ (n : Int) := by omega
  have hm3 : ¬ ((m : Int) < 36) := by omega
  have hBy := venc_byte x
  have HVb := Lib.hid hBy
  clear hBy hmm hc hx hn hwas hby2 he hrd hr hv0 her hi hbad
  have HX : Hid (Has (w.alloc (.cells x.cs 34)) w.heap.size 34 x.cs) := Lib.hid (Has.new _ _ _)
  have HB : Hid (Below w.heap.size w (w.alloc (.cells x.cs 34))) := Lib.hid ((Below.refl _ w).alloc (Nat.le_refl _) _)
  have HSz : Hid ((w.alloc (.cells x.cs 34)).heap.size = w.heap.size + 1) := Lib.hid (by simp)
  go_enter Try.func8, Try.ntmps8
  go_wp2_with fail
  refine (lives8 _).mono ?_
  rintro e w1 ⟨rfl, hb⟩
  have HX1 := Lib.hid (HX.out.below hb)
  have HB1 := Lib.hid (HB.out.trans (hb.mono HB.out.size))
  clear hb HB HX HSz
  go_wp2_with (first | (refine wpList_load_row rfl 34 (.tmp 3) rfl w.heap.size rfl 34 x.cs (0, 0) _ HX1.out Try.underlying34 rfl x.fit ?_))
  refine (HBy.out _).mono ?_
  rintro e w2 ⟨xb, xc, rfl, hrow, hxb, hb⟩
  have HX2 := Lib.hid (HX1.out.below hb)
  have HB2 := Lib.hid (HB1.out.trans (hb.mono HB1.out.size))
  have HG : Hid (w.heap.size < xb) := Lib.hid (by have := HX1.out.lt; omega)
  have HR2 := Lib.hid hrow
  clear hb HB1 HX1 hrow hxb
  go_wp2_with fail
  refine (pick_any l 36 (by decide) (by decide) _).mono ?_
  rintro e w9 ⟨rfl, rfl⟩
  rw [HN.out]
  have hcell := HR2.out.cell n HLa.out
  rw [HWas.out] at hcell
  have hwb : 0 ≤ was ∧ was ≤ 255 := by rw [← HWas.out]; exact HVb.out _ (List.getElem_mem HLa.out)
  obtain ⟨hwb0, hwb1⟩ := hwb
  have hfr : w2.frozen? ⟨xb, n, none⟩ = false := by
    obtain ⟨_, h1, _⟩ := HR2.out
    exact h1.free _
  have HR3 := Lib.hid (HR2.out.set_ n u)
  have HB3 : Hid (Below w.heap.size w (w2.setCell ⟨xb, n, none⟩ (.int .u8 u))) := Lib.hid (HB2.out.setCell (p := ⟨xb, n, none⟩) (Nat.le_of_lt HG.out) _)
  have HX3 : Hid (Has (w2.setCell ⟨xb, n, none⟩ (.int .u8 u)) w.heap.size 34 x.cs) := Lib.hid (HX2.out.grown (only_set (only_refl w2 xb) (p := ⟨xb, n, none⟩) (.inl rfl) _) (by intro h9; injection h9 with h9; have := HG.out; omega))
  go_wp2_with fail
  refine (HRx.out _ _ _ HR3.out).mono ?_
  rintro e w4 ⟨rfl, hb⟩
  have HX4 := Lib.hid (HX3.out.below hb)
  have HB4 := Lib.hid (HB3.out.trans (hb.mono HB3.out.size))
  clear hb HB3 HX3 HR3 HR2 hcell hfr HB2 HX2
  have HSa : Hid (VRW w4 vp0 0 0 ((w4.alloc (.cells #[.int .u32 0, .int .u32 0, .int .i64 0, .int .i64 0, .int .u32 0, .int .u32 0, .int .u64 0, .int .u64 0, .int .i64 0, .int .i64 0, .int .u64 0, .int .u32 0, .int .u64 0, .int .u32 0, .int .u32 0, .int .u32 0, .int .i64 0, .int .i64 0, .int .i64 0, .int .i64 0, .int .u64 0] 34)).alloc (.cells #[.int .i64 0, .int .i64 0] 37))) := Lib.hid (VRW.start w4)
  go_upto_region 10 with (refine wpList_store_row rfl 34 (.tmp 10) (.tmp 41) rfl w4.heap.size vp0.cs rfl rfl 34 vp0.cs HSa.out.zer (VP.fit vp0) rfl (VP.one vp0) ?_; have HTa := Lib.hid (HSa.out.row vp0); generalize ((w4.alloc (.cells #[.int .u32 0, .int .u32 0, .int .i64 0, .int .i64 0, .int .u32 0, .int .u32 0, .int .u64 0, .int .u64 0, .int .i64 0, .int .i64 0, .int .u64 0, .int .u32 0, .int .u64 0, .int .u32 0, .int .u32 0, .int .u32 0, .int .i64 0, .int .i64 0, .int .i64 0, .int .i64 0, .int .u64 0] 34)).alloc (.cells #[.int .i64 0, .int .i64 0] 37)).setRow w4.heap.size vp0.cs = Ta at HTa ⊢; have q0 := HTa.out.flt.cell 0; have q1 := HTa.out.flt.cell 1; have p0 := HTa.out.flt.free 0; have p1 := HTa.out.flt.free 1; simp only [List.getElem?_toArray, List.getElem?_cons_zero, List.getElem?_cons_succ] at q0 q1)
  have HUa := Lib.hid (HTa.out.set er i)
  obtain ⟨Ua, hUa⟩ : ∃ U, ((Ta.setCell ⟨w4.heap.size + 1, 0, none⟩ (.int .i64 er)).setCell ⟨w4.heap.size + 1, 1, none⟩ (.int .i64 i)) = U := ⟨_, rfl⟩
  rw [hUa] at HUa
  try rw [hUa]
  clear hUa q0 q1 p0 p1 HSa HTa
  have z0 := HUa.out.flt.cell 0
  have z1 := HUa.out.flt.cell 1
  simp only [List.getElem?_toArray, List.getElem?_cons_zero, List.getElem?_cons_succ] at z0 z1
  have HX5 := Lib.hid (HX4.out.below HUa.out.lo)
  have HB5 := Lib.hid (HB4.out.trans (HUa.out.lo.mono HB4.out.size))
  clear HX4 HB4
  go_wp2_with (first | (refine wpList_load_rowg (by rfl) 34 (.tmp 10) rfl w4.heap.size rfl 34 vp0.cs (0, 0) _ HUa.out.zer Try.underlying34 rfl vp0.fit ?_))
  go_ret
  exact ⟨rfl, HB5.out⟩

set_option maxHeartbeats 4000000 in
theorem vch_bad2 (x : VP) (hx : x.ty) (l : Int) (u : Int) (hu : 0 ≤ u ∧ u ≤ 255) (hc : vchk x = 0) (n : Nat) (hn : l % 36 = n) (hn2 : n < 36) (hla : n < (venc x).length) (he : u ≠ (venc x)[n]) (hr : n = 35) (w : World) :
    Calls Try.prog 8 #[.agg x.cs, .int .i64 l, .int .u8 u] w fun e w' => e = .returned (.bool true) ∧ Below w.heap.size w w' := by
  have hby2 : ∀ v ∈ (venc x).set n u, 0 ≤ v ∧ v ≤ 255 := fun v hv => by
    rcases List.mem_or_eq_of_mem_set hv with h | rfl
    · exact venc_byte x v h
    · exact hu
  obtain ⟨m, hmm⟩ : ∃ m, (venc x).length = m := ⟨_, rfl⟩
  have hm36 : 36 ≤ m ∧ m ≤ 100 := by rw [← hmm, venc_len]; have := fenc_len x.f; omega
  have HBy : Hid (∀ W : World, Calls Try.prog 11 #[.agg x.cs] W fun e w' => ∃ b c, e = .returned (.tuple #[.slice (some ⟨b, 0, none⟩) m c, .int .i64 0]) ∧ Row w' b c (venc x) ∧ W.heap.size ≤ b ∧ Below W.heap.size W w') := Lib.hid (fun W => hmm ▸ vbytes_yes x hx hc W)
  have hbad := vchange_no n (.inr (.inr hr)) hla u hu.1 hu.2 he
  obtain ⟨hv0, _, _⟩ := vread_bad hbad
  obtain ⟨er, her⟩ : ∃ er, (vread ((venc x).set n u)).2.1 = er := ⟨_, rfl⟩
  obtain ⟨i, hi⟩ : ∃ i, (vread ((venc x).set n u)).2.2 = i := ⟨_, rfl⟩
  have hrd : vread ((venc x).set n u) = (vp0, er, i) := by rw [← hv0, ← her, ← hi]
  rw [her] at hbad
  have HRx : Hid (∀ (b c : Nat) (W : World), Row W b c ((venc x).set n u) → Calls Try.prog 10 #[.slice (some ⟨b, 0, none⟩) m c] W fun e w' => e = .returned (.tuple #[.agg vp0.cs, .agg #[.int .i64 er, .int .i64 i]]) ∧ Below W.heap.size W w') := Lib.hid (fun b c W hr => by
    have hl : ((venc x).set n u).length = m := by rw [List.length_set]; exact hmm
    have hcap : ((venc x).set n u).length ≤ c := by
      obtain ⟨_, _, _, _, h4, _⟩ := hr
      exact h4
    have h := vread_any (some ⟨b, 0, none⟩) c ((venc x).set n u) W (row_arr hr rfl) hby2 (by rw [hl]; omega) hcap
    unfold VReads at h
    rw [hrd, hl] at h
    exact h)
  obtain ⟨was, hwas⟩ : ∃ y, (venc x)[n] = y := ⟨_, rfl⟩
  have hq : (u == was) = false := by rw [hwas] at he; simpa using he
  have hne : (er != 0) = true := by simpa using hbad
  have hez := eqz
  have t1 : ¬ ((n : Int) < 20) := by omega
  have t2 : (21 : Int) < (n : Int) := by omega
  have t3 : ¬ ((n : Int) < 29) := by omega
  have t4 : ((n : Int) == 35) = true := by simp; omega
  have HWas := Lib.hid hwas
  have HM := Lib.hid hmm
  have HLa := Lib.hid hla
  have HN := Lib.hid hn
  obtain ⟨hu0, hu1⟩ := hu
  obtain ⟨hm1, hm2⟩ := hm36
  have hnm : (n : Int) < (m : Int) := by omega
  have hn0 : (0 : Int) ≤ (n : Int) := by omega
  have hm3 : ¬ ((m : Int) < 36) := by omega
  have hBy := venc_byte x
  have HVb := Lib.hid hBy
  clear hBy hmm hc hx hn hwas hby2 he hrd hr hv0 her hi hbad
  have HX : Hid (Has (w.alloc (.cells x.cs 34)) w.heap.size 34 x.cs) := Lib.hid (Has.new _ _ _)
  have HB : Hid (Below w.heap.size w (w.alloc (.cells x.cs 34))) := Lib.hid ((Below.refl _ w).alloc (Nat.le_refl _) _)
  have HSz : Hid ((w.alloc (.cells x.cs 34)).heap.size = w.heap.size + 1) := Lib.hid (by simp)
  go_enter Try.func8, Try.ntmps8
  go_wp2_with fail
  refine (lives8 _).mono ?_
  rintro e w1 ⟨rfl, hb⟩
  have HX1 := Lib.hid (HX.out.below hb)
  have HB1 := Lib.hid (HB.out.trans (hb.mono HB.out.size))
  clear hb HB HX HSz
  go_wp2_with (first | (refine wpList_load_row rfl 34 (.tmp 3) rfl w.heap.size rfl 34 x.cs (0, 0) _ HX1.out Try.underlying34 rfl x.fit ?_))
  refine (HBy.out _).mono ?_
  rintro e w2 ⟨xb, xc, rfl, hrow, hxb, hb⟩
  have HX2 := Lib.hid (HX1.out.below hb)
  have HB2 := Lib.hid (HB1.out.trans (hb.mono HB1.out.size))
  have HG : Hid (w.heap.size < xb) := Lib.hid (by have := HX1.out.lt; omega)
  have HR2 := Lib.hid hrow
  clear hb HB1 HX1 hrow hxb
  go_wp2_with fail
  refine (pick_any l 36 (by decide) (by decide) _).mono ?_
  rintro e w9 ⟨rfl, rfl⟩
  rw [HN.out]
  have hcell := HR2.out.cell n HLa.out
  rw [HWas.out] at hcell
  have hwb : 0 ≤ was ∧ was ≤ 255 := by rw [← HWas.out]; exact HVb.out _ (List.getElem_mem HLa.out)
  obtain ⟨hwb0, hwb1⟩ := hwb
  have hfr : w2.frozen? ⟨xb, n, none⟩ = false := by
    obtain ⟨_, h1, _⟩ := HR2.out
    exact h1.free _
  have HR3 := Lib.hid (HR2.out.set_ n u)
  have HB3 : Hid (Below w.heap.size w (w2.setCell ⟨xb, n, none⟩ (.int .u8 u))) := Lib.hid (HB2.out.setCell (p := ⟨xb, n, none⟩) (Nat.le_of_lt HG.out) _)
  have HX3 : Hid (Has (w2.setCell ⟨xb, n, none⟩ (.int .u8 u)) w.heap.size 34 x.cs) := Lib.hid (HX2.out.grown (only_set (only_refl w2 xb) (p := ⟨xb, n, none⟩) (.inl rfl) _) (by intro h9; injection h9 with h9; have := HG.out; omega))
  go_wp2_with fail
  refine (HRx.out _ _ _ HR3.out).mono ?_
  rintro e w4 ⟨rfl, hb⟩
  have HX4 := Lib.hid (HX3.out.below hb)
  have HB4 := Lib.hid (HB3.out.trans (hb.mono HB3.out.size))
  clear hb HB3 HX3 HR3 HR2 hcell hfr HB2 HX2
  have HSa : Hid (VRW w4 vp0 0 0 ((w4.alloc (.cells #[.int .u32 0, .int .u32 0, .int .i64 0, .int .i64 0, .int .u32 0, .int .u32 0, .int .u64 0, .int .u64 0, .int .i64 0, .int .i64 0, .int .u64 0, .int .u32 0, .int .u64 0, .int .u32 0, .int .u32 0, .int .u32 0, .int .i64 0, .int .i64 0, .int .i64 0, .int .i64 0, .int .u64 0] 34)).alloc (.cells #[.int .i64 0, .int .i64 0] 37))) := Lib.hid (VRW.start w4)
  go_upto_region 10 with (refine wpList_store_row rfl 34 (.tmp 10) (.tmp 41) rfl w4.heap.size vp0.cs rfl rfl 34 vp0.cs HSa.out.zer (VP.fit vp0) rfl (VP.one vp0) ?_; have HTa := Lib.hid (HSa.out.row vp0); generalize ((w4.alloc (.cells #[.int .u32 0, .int .u32 0, .int .i64 0, .int .i64 0, .int .u32 0, .int .u32 0, .int .u64 0, .int .u64 0, .int .i64 0, .int .i64 0, .int .u64 0, .int .u32 0, .int .u64 0, .int .u32 0, .int .u32 0, .int .u32 0, .int .i64 0, .int .i64 0, .int .i64 0, .int .i64 0, .int .u64 0] 34)).alloc (.cells #[.int .i64 0, .int .i64 0] 37)).setRow w4.heap.size vp0.cs = Ta at HTa ⊢; have q0 := HTa.out.flt.cell 0; have q1 := HTa.out.flt.cell 1; have p0 := HTa.out.flt.free 0; have p1 := HTa.out.flt.free 1; simp only [List.getElem?_toArray, List.getElem?_cons_zero, List.getElem?_cons_succ] at q0 q1)
  have HUa := Lib.hid (HTa.out.set er i)
  obtain ⟨Ua, hUa⟩ : ∃ U, ((Ta.setCell ⟨w4.heap.size + 1, 0, none⟩ (.int .i64 er)).setCell ⟨w4.heap.size + 1, 1, none⟩ (.int .i64 i)) = U := ⟨_, rfl⟩
  rw [hUa] at HUa
  try rw [hUa]
  clear hUa q0 q1 p0 p1 HSa HTa
  have z0 := HUa.out.flt.cell 0
  have z1 := HUa.out.flt.cell 1
  simp only [List.getElem?_toArray, List.getElem?_cons_zero, List.getElem?_cons_succ] at z0 z1
  have HX5 := Lib.hid (HX4.out.below HUa.out.lo)
  have HB5 := Lib.hid (HB4.out.trans (HUa.out.lo.mono HB4.out.size))
  clear HX4 HB4
  go_wp2_with (first | (refine wpList_load_rowg (by rfl) 34 (.tmp 10) rfl w4.heap.size rfl 34 vp0.cs (0, 0) _ HUa.out.zer Try.underlying34 rfl vp0.fit ?_))
  go_ret
  exact ⟨rfl, HB5.out⟩

set_option maxHeartbeats 4000000 in
theorem vch_new0 (x : VP) (hx : x.ty) (l : Int) (u : Int) (hu : 0 ≤ u ∧ u ≤ 255) (hc : vchk x = 0) (n : Nat) (hn : l % 36 = n) (hn2 : n < 36) (hla : n < (venc x).length) (he : u ≠ (venc x)[n]) (hr : n = 20 ∨ n = 21) (w : World) :
    Calls Try.prog 8 #[.agg x.cs, .int .i64 l, .int .u8 u] w fun e w' => e = .returned (.bool true) ∧ Below w.heap.size w w' := by
  have hby2 : ∀ v ∈ (venc x).set n u, 0 ≤ v ∧ v ≤ 255 := fun v hv => by
    rcases List.mem_or_eq_of_mem_set hv with h | rfl
    · exact venc_byte x v h
    · exact hu
  obtain ⟨m, hmm⟩ : ∃ m, (venc x).length = m := ⟨_, rfl⟩
  have hm36 : 36 ≤ m ∧ m ≤ 100 := by rw [← hmm, venc_len]; have := fenc_len x.f; omega
  have HBy : Hid (∀ W : World, Calls Try.prog 11 #[.agg x.cs] W fun e w' => ∃ b c, e = .returned (.tuple #[.slice (some ⟨b, 0, none⟩) m c, .int .i64 0]) ∧ Row w' b c (venc x) ∧ W.heap.size ≤ b ∧ Below W.heap.size W w') := Lib.hid (fun W => hmm ▸ vbytes_yes x hx hc W)
  obtain ⟨y, hyt, hyc, hye, hyx⟩ := vchange_yes hx hc n (by omega) hla u hu.1 hu.2 he
  have hrd : vread ((venc x).set n u) = (y, 0, 0) := by rw [← hye]; exact vread_enc hyt hyc
  have HRx : Hid (∀ (b c : Nat) (W : World), Row W b c ((venc x).set n u) → Calls Try.prog 10 #[.slice (some ⟨b, 0, none⟩) m c] W fun e w' => e = .returned (.tuple #[.agg y.cs, .agg #[.int .i64 0, .int .i64 0]]) ∧ Below W.heap.size W w') := Lib.hid (fun b c W hr => by
    have hl : ((venc x).set n u).length = m := by rw [List.length_set]; exact hmm
    have hcap : ((venc x).set n u).length ≤ c := by
      obtain ⟨_, _, _, _, h4, _⟩ := hr
      exact h4
    have h := vread_any (some ⟨b, 0, none⟩) c ((venc x).set n u) W (row_arr hr rfl) hby2 (by rw [hl]; omega) hcap
    unfold VReads at h
    rw [hrd, hl] at h
    exact h)
  obtain ⟨was, hwas⟩ : ∃ y, (venc x)[n] = y := ⟨_, rfl⟩
  have hq : (u == was) = false := by rw [hwas] at he; simpa using he
  have hft := eql_ft 0 0 0 0
  have hex : ∀ w, (binOp .neq 34 (.agg y.cs) (.agg x.cs)).run Try.prog w = .ok (.bool true) w := fun w => by
    have h := neq_vp y x w
    have h2 : y.same x = false := by
      cases h3 : y.same x
      · rfl
      · exact absurd (VP.same_iff.1 h3) hyx
    rw [h2] at h
    exact h
  have t1 : ¬ ((n : Int) < 20) := by omega
  have t2 : ¬ ((21 : Int) < (n : Int)) := by omega
  have t4 : ((n : Int) == 35) = false := by simp; omega
  have HWas := Lib.hid hwas
  have HM := Lib.hid hmm
  have HLa := Lib.hid hla
  have HN := Lib.hid hn
  obtain ⟨hu0, hu1⟩ := hu
  obtain ⟨hm1, hm2⟩ := hm36
  have hnm : (n : Int) < (m : Int) := by omega
  have hn0 : (0 : Int) ≤ (n : Int) := by omega
  have hm3 : ¬ ((m : Int) < 36) := by omega
  have hBy := venc_byte x
  have HVb := Lib.hid hBy
  clear hBy hmm hc hx hn hwas hby2 he hrd hr hyt hyc hye hyx
  have HX : Hid (Has (w.alloc (.cells x.cs 34)) w.heap.size 34 x.cs) := Lib.hid (Has.new _ _ _)
  have HB : Hid (Below w.heap.size w (w.alloc (.cells x.cs 34))) := Lib.hid ((Below.refl _ w).alloc (Nat.le_refl _) _)
  have HSz : Hid ((w.alloc (.cells x.cs 34)).heap.size = w.heap.size + 1) := Lib.hid (by simp)
  go_enter Try.func8, Try.ntmps8
  go_wp2_with fail
  refine (lives8 _).mono ?_
  rintro e w1 ⟨rfl, hb⟩
  have HX1 := Lib.hid (HX.out.below hb)
  have HB1 := Lib.hid (HB.out.trans (hb.mono HB.out.size))
  clear hb HB HX HSz
  go_wp2_with (first | (refine wpList_load_row rfl 34 (.tmp 3) rfl w.heap.size rfl 34 x.cs (0, 0) _ HX1.out Try.underlying34 rfl x.fit ?_))
  refine (HBy.out _).mono ?_
  rintro e w2 ⟨xb, xc, rfl, hrow, hxb, hb⟩
  have HX2 := Lib.hid (HX1.out.below hb)
  have HB2 := Lib.hid (HB1.out.trans (hb.mono HB1.out.size))
  have HG : Hid (w.heap.size < xb) := Lib.hid (by have := HX1.out.lt; omega)
  have HR2 := Lib.hid hrow
  clear hb HB1 HX1 hrow hxb
  go_wp2_with fail
  refine (pick_any l 36 (by decide) (by decide) _).mono ?_
  rintro e w9 ⟨rfl, rfl⟩
  rw [HN.out]
  have hcell := HR2.out.cell n HLa.out
  rw [HWas.out] at hcell
  have hwb : 0 ≤ was ∧ was ≤ 255 := by rw [← HWas.out]; exact HVb.out _ (List.getElem_mem HLa.out)
  obtain ⟨hwb0, hwb1⟩ := hwb
  have hfr : w2.frozen? ⟨xb, n, none⟩ = false := by
    obtain ⟨_, h1, _⟩ := HR2.out
    exact h1.free _
  have HR3 := Lib.hid (HR2.out.set_ n u)
  have HB3 : Hid (Below w.heap.size w (w2.setCell ⟨xb, n, none⟩ (.int .u8 u))) := Lib.hid (HB2.out.setCell (p := ⟨xb, n, none⟩) (Nat.le_of_lt HG.out) _)
  have HX3 : Hid (Has (w2.setCell ⟨xb, n, none⟩ (.int .u8 u)) w.heap.size 34 x.cs) := Lib.hid (HX2.out.grown (only_set (only_refl w2 xb) (p := ⟨xb, n, none⟩) (.inl rfl) _) (by intro h9; injection h9 with h9; have := HG.out; omega))
  go_wp2_with fail
  refine (HRx.out _ _ _ HR3.out).mono ?_
  rintro e w4 ⟨rfl, hb⟩
  have HX4 := Lib.hid (HX3.out.below hb)
  have HB4 := Lib.hid (HB3.out.trans (hb.mono HB3.out.size))
  clear hb HB3 HX3 HR3 HR2 hcell hfr HB2 HX2
  have HSa : Hid (VRW w4 vp0 0 0 ((w4.alloc (.cells #[.int .u32 0, .int .u32 0, .int .i64 0, .int .i64 0, .int .u32 0, .int .u32 0, .int .u64 0, .int .u64 0, .int .i64 0, .int .i64 0, .int .u64 0, .int .u32 0, .int .u64 0, .int .u32 0, .int .u32 0, .int .u32 0, .int .i64 0, .int .i64 0, .int .i64 0, .int .i64 0, .int .u64 0] 34)).alloc (.cells #[.int .i64 0, .int .i64 0] 37))) := Lib.hid (VRW.start w4)
  go_upto_region 10 with (refine wpList_store_row rfl 34 (.tmp 10) (.tmp 41) rfl w4.heap.size y.cs rfl rfl 34 vp0.cs HSa.out.zer (VP.fit y) rfl (VP.one y) ?_; have HTa := Lib.hid (HSa.out.row y); generalize ((w4.alloc (.cells #[.int .u32 0, .int .u32 0, .int .i64 0, .int .i64 0, .int .u32 0, .int .u32 0, .int .u64 0, .int .u64 0, .int .i64 0, .int .i64 0, .int .u64 0, .int .u32 0, .int .u64 0, .int .u32 0, .int .u32 0, .int .u32 0, .int .i64 0, .int .i64 0, .int .i64 0, .int .i64 0, .int .u64 0] 34)).alloc (.cells #[.int .i64 0, .int .i64 0] 37)).setRow w4.heap.size y.cs = Ta at HTa ⊢; have q0 := HTa.out.flt.cell 0; have q1 := HTa.out.flt.cell 1; have p0 := HTa.out.flt.free 0; have p1 := HTa.out.flt.free 1; simp only [List.getElem?_toArray, List.getElem?_cons_zero, List.getElem?_cons_succ] at q0 q1)
  have HUa := Lib.hid (HTa.out.set 0 0)
  obtain ⟨Ua, hUa⟩ : ∃ U, ((Ta.setCell ⟨w4.heap.size + 1, 0, none⟩ (.int .i64 0)).setCell ⟨w4.heap.size + 1, 1, none⟩ (.int .i64 0)) = U := ⟨_, rfl⟩
  rw [hUa] at HUa
  try rw [hUa]
  clear hUa q0 q1 p0 p1 HSa HTa
  have z0 := HUa.out.flt.cell 0
  have z1 := HUa.out.flt.cell 1
  simp only [List.getElem?_toArray, List.getElem?_cons_zero, List.getElem?_cons_succ] at z0 z1
  have HX5 := Lib.hid (HX4.out.below HUa.out.lo)
  have HB5 := Lib.hid (HB4.out.trans (HUa.out.lo.mono HB4.out.size))
  clear HX4 HB4
  go_wp2_with (first | (refine wpList_load_rowg (by rfl) 34 (.tmp 10) rfl w4.heap.size rfl 34 y.cs (0, 0) _ HUa.out.zer Try.underlying34 rfl y.fit ?_) | (refine wpList_load_rowg (by rfl) 34 (.tmp 3) rfl w.heap.size rfl 34 x.cs (0, 0) _ HX5.out Try.underlying34 rfl x.fit ?_))
  go_ret
  exact ⟨rfl, HB5.out⟩

set_option maxHeartbeats 4000000 in
theorem vch_new1 (x : VP) (hx : x.ty) (l : Int) (u : Int) (hu : 0 ≤ u ∧ u ≤ 255) (hc : vchk x = 0) (n : Nat) (hn : l % 36 = n) (hn2 : n < 36) (hla : n < (venc x).length) (he : u ≠ (venc x)[n]) (hr : 29 ≤ n ∧ n ≤ 34) (w : World) :
    Calls Try.prog 8 #[.agg x.cs, .int .i64 l, .int .u8 u] w fun e w' => e = .returned (.bool true) ∧ Below w.heap.size w w' := by
  have hby2 : ∀ v ∈ (venc x).set n u, 0 ≤ v ∧ v ≤ 255 := fun v hv => by
    rcases List.mem_or_eq_of_mem_set hv with h | rfl
    · exact venc_byte x v h
    · exact hu
  obtain ⟨m, hmm⟩ : ∃ m, (venc x).length = m := ⟨_, rfl⟩
  have hm36 : 36 ≤ m ∧ m ≤ 100 := by rw [← hmm, venc_len]; have := fenc_len x.f; omega
  have HBy : Hid (∀ W : World, Calls Try.prog 11 #[.agg x.cs] W fun e w' => ∃ b c, e = .returned (.tuple #[.slice (some ⟨b, 0, none⟩) m c, .int .i64 0]) ∧ Row w' b c (venc x) ∧ W.heap.size ≤ b ∧ Below W.heap.size W w') := Lib.hid (fun W => hmm ▸ vbytes_yes x hx hc W)
  obtain ⟨y, hyt, hyc, hye, hyx⟩ := vchange_yes hx hc n (by omega) hla u hu.1 hu.2 he
  have hrd : vread ((venc x).set n u) = (y, 0, 0) := by rw [← hye]; exact vread_enc hyt hyc
  have HRx : Hid (∀ (b c : Nat) (W : World), Row W b c ((venc x).set n u) → Calls Try.prog 10 #[.slice (some ⟨b, 0, none⟩) m c] W fun e w' => e = .returned (.tuple #[.agg y.cs, .agg #[.int .i64 0, .int .i64 0]]) ∧ Below W.heap.size W w') := Lib.hid (fun b c W hr => by
    have hl : ((venc x).set n u).length = m := by rw [List.length_set]; exact hmm
    have hcap : ((venc x).set n u).length ≤ c := by
      obtain ⟨_, _, _, _, h4, _⟩ := hr
      exact h4
    have h := vread_any (some ⟨b, 0, none⟩) c ((venc x).set n u) W (row_arr hr rfl) hby2 (by rw [hl]; omega) hcap
    unfold VReads at h
    rw [hrd, hl] at h
    exact h)
  obtain ⟨was, hwas⟩ : ∃ y, (venc x)[n] = y := ⟨_, rfl⟩
  have hq : (u == was) = false := by rw [hwas] at he; simpa using he
  have hft := eql_ft 0 0 0 0
  have hex : ∀ w, (binOp .neq 34 (.agg y.cs) (.agg x.cs)).run Try.prog w = .ok (.bool true) w := fun w => by
    have h := neq_vp y x w
    have h2 : y.same x = false := by
      cases h3 : y.same x
      · rfl
      · exact absurd (VP.same_iff.1 h3) hyx
    rw [h2] at h
    exact h
  have t1 : ¬ ((n : Int) < 20) := by omega
  have t2 : (21 : Int) < (n : Int) := by omega
  have t3 : ¬ ((n : Int) < 29) := by omega
  have t4 : ((n : Int) == 35) = false := by simp; omega
  have HWas := Lib.hid hwas
  have HM := Lib.hid hmm
  have HLa := Lib.hid hla
  have HN := Lib.hid hn
  obtain ⟨hu0, hu1⟩ := hu
  obtain ⟨hm1, hm2⟩ := hm36
  have hnm : (n : Int) < (m : Int) := by omega
  have hn0 : (0 : Int) ≤ (n : Int) := by omega
  have hm3 : ¬ ((m : Int) < 36) := by omega
  have hBy := venc_byte x
  have HVb := Lib.hid hBy
  clear hBy hmm hc hx hn hwas hby2 he hrd hr hyt hyc hye hyx
  have HX : Hid (Has (w.alloc (.cells x.cs 34)) w.heap.size 34 x.cs) := Lib.hid (Has.new _ _ _)
  have HB : Hid (Below w.heap.size w (w.alloc (.cells x.cs 34))) := Lib.hid ((Below.refl _ w).alloc (Nat.le_refl _) _)
  have HSz : Hid ((w.alloc (.cells x.cs 34)).heap.size = w.heap.size + 1) := Lib.hid (by simp)
  go_enter Try.func8, Try.ntmps8
  go_wp2_with fail
  refine (lives8 _).mono ?_
  rintro e w1 ⟨rfl, hb⟩
  have HX1 := Lib.hid (HX.out.below hb)
  have HB1 := Lib.hid (HB.out.trans (hb.mono HB.out.size))
  clear hb HB HX HSz
  go_wp2_with (first | (refine wpList_load_row rfl 34 (.tmp 3) rfl w.heap.size rfl 34 x.cs (0, 0) _ HX1.out Try.underlying34 rfl x.fit ?_))
  refine (HBy.out _).mono ?_
  rintro e w2 ⟨xb, xc, rfl, hrow, hxb, hb⟩
  have HX2 := Lib.hid (HX1.out.below hb)
  have HB2 := Lib.hid (HB1.out.trans (hb.mono HB1.out.size))
  have HG : Hid (w.heap.size < xb) := Lib.hid (by have := HX1.out.lt; omega)
  have HR2 := Lib.hid hrow
  clear hb HB1 HX1 hrow hxb
  go_wp2_with fail
  refine (pick_any l 36 (by decide) (by decide) _).mono ?_
  rintro e w9 ⟨rfl, rfl⟩
  rw [HN.out]
  have hcell := HR2.out.cell n HLa.out
  rw [HWas.out] at hcell
  have hwb : 0 ≤ was ∧ was ≤ 255 := by rw [← HWas.out]; exact HVb.out _ (List.getElem_mem HLa.out)
  obtain ⟨hwb0, hwb1⟩ := hwb
  have hfr : w2.frozen? ⟨xb, n, none⟩ = false := by
    obtain ⟨_, h1, _⟩ := HR2.out
    exact h1.free _
  have HR3 := Lib.hid (HR2.out.set_ n u)
  have HB3 : Hid (Below w.heap.size w (w2.setCell ⟨xb, n, none⟩ (.int .u8 u))) := Lib.hid (HB2.out.setCell (p := ⟨xb, n, none⟩) (Nat.le_of_lt HG.out) _)
  have HX3 : Hid (Has (w2.setCell ⟨xb, n, none⟩ (.int .u8 u)) w.heap.size 34 x.cs) := Lib.hid (HX2.out.grown (only_set (only_refl w2 xb) (p := ⟨xb, n, none⟩) (.inl rfl) _) (by intro h9; injection h9 with h9; have := HG.out; omega))
  go_wp2_with fail
  refine (HRx.out _ _ _ HR3.out).mono ?_
  rintro e w4 ⟨rfl, hb⟩
  have HX4 := Lib.hid (HX3.out.below hb)
  have HB4 := Lib.hid (HB3.out.trans (hb.mono HB3.out.size))
  clear hb HB3 HX3 HR3 HR2 hcell hfr HB2 HX2
  have HSa : Hid (VRW w4 vp0 0 0 ((w4.alloc (.cells #[.int .u32 0, .int .u32 0, .int .i64 0, .int .i64 0, .int .u32 0, .int .u32 0, .int .u64 0, .int .u64 0, .int .i64 0, .int .i64 0, .int .u64 0, .int .u32 0, .int .u64 0, .int .u32 0, .int .u32 0, .int .u32 0, .int .i64 0, .int .i64 0, .int .i64 0, .int .i64 0, .int .u64 0] 34)).alloc (.cells #[.int .i64 0, .int .i64 0] 37))) := Lib.hid (VRW.start w4)
  go_upto_region 10 with (refine wpList_store_row rfl 34 (.tmp 10) (.tmp 41) rfl w4.heap.size y.cs rfl rfl 34 vp0.cs HSa.out.zer (VP.fit y) rfl (VP.one y) ?_; have HTa := Lib.hid (HSa.out.row y); generalize ((w4.alloc (.cells #[.int .u32 0, .int .u32 0, .int .i64 0, .int .i64 0, .int .u32 0, .int .u32 0, .int .u64 0, .int .u64 0, .int .i64 0, .int .i64 0, .int .u64 0, .int .u32 0, .int .u64 0, .int .u32 0, .int .u32 0, .int .u32 0, .int .i64 0, .int .i64 0, .int .i64 0, .int .i64 0, .int .u64 0] 34)).alloc (.cells #[.int .i64 0, .int .i64 0] 37)).setRow w4.heap.size y.cs = Ta at HTa ⊢; have q0 := HTa.out.flt.cell 0; have q1 := HTa.out.flt.cell 1; have p0 := HTa.out.flt.free 0; have p1 := HTa.out.flt.free 1; simp only [List.getElem?_toArray, List.getElem?_cons_zero, List.getElem?_cons_succ] at q0 q1)
  have HUa := Lib.hid (HTa.out.set 0 0)
  obtain ⟨Ua, hUa⟩ : ∃ U, ((Ta.setCell ⟨w4.heap.size + 1, 0, none⟩ (.int .i64 0)).setCell ⟨w4.heap.size + 1, 1, none⟩ (.int .i64 0)) = U := ⟨_, rfl⟩
  rw [hUa] at HUa
  try rw [hUa]
  clear hUa q0 q1 p0 p1 HSa HTa
  have z0 := HUa.out.flt.cell 0
  have z1 := HUa.out.flt.cell 1
  simp only [List.getElem?_toArray, List.getElem?_cons_zero, List.getElem?_cons_succ] at z0 z1
  have HX5 := Lib.hid (HX4.out.below HUa.out.lo)
  have HB5 := Lib.hid (HB4.out.trans (HUa.out.lo.mono HB4.out.size))
  clear HX4 HB4
  go_wp2_with (first | (refine wpList_load_rowg (by rfl) 34 (.tmp 10) rfl w4.heap.size rfl 34 y.cs (0, 0) _ HUa.out.zer Try.underlying34 rfl y.fit ?_) | (refine wpList_load_rowg (by rfl) 34 (.tmp 3) rfl w.heap.size rfl 34 x.cs (0, 0) _ HX5.out Try.underlying34 rfl x.fit ?_))
  go_ret
  exact ⟨rfl, HB5.out⟩

theorem vchanges_any (x : VP) (hx : x.ty) (l : Int) (hl : (Lit.int .i64 l).wf = true) (u : Int) (hu : 0 ≤ u ∧ u ≤ 255) (w : World) :
    Calls Try.prog 8 #[.agg x.cs, .int .i64 l, .int .u8 u] w fun e w' => e = .returned (.bool true) ∧ Below w.heap.size w w' := by
  by_cases hc : vchk x = 0
  · obtain ⟨n, hn⟩ := Int.eq_ofNat_of_zero_le (Int.emod_nonneg l (show (36 : Int) ≠ 0 by decide))
    have hn2 : n < 36 := by have := Int.emod_lt_of_pos l (show (0 : Int) < 36 by decide); omega
    have hla : n < (venc x).length := by rw [venc_len]; omega
    by_cases he : u = (venc x)[n]
    · exact vch_same x hx l u hu hc n hn hn2 hla he w
    have h5 : n < 20 ∨ (22 ≤ n ∧ n ≤ 28) ∨ n = 35 ∨ (n = 20 ∨ n = 21) ∨ (29 ≤ n ∧ n ≤ 34) := by omega
    rcases h5 with h | h | h | h | h
    · exact vch_bad0 x hx l u hu hc n hn hn2 hla he h w
    · exact vch_bad1 x hx l u hu hc n hn hn2 hla he h w
    · exact vch_bad2 x hx l u hu hc n hn hn2 hla he h w
    · exact vch_new0 x hx l u hu hc n hn hn2 hla he h w
    · exact vch_new1 x hx l u hu hc n hn hn2 hla he h w
  · exact vch_no x hx l u hc w

end Go.Proofs.Ytgdfpmnbofnjfaa
