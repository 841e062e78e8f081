/- VxlanBack: the walk; written by gen_vxq.py. -/
import Derived.Test.YtgdfpmnbofnjfaaZVxN
namespace Go.Proofs.Ytgdfpmnbofnjfaa
open Go.RowKit Go.Shelf
set_option linter.unusedVariables false
set_option linter.unusedSimpArgs false
set_option maxRecDepth 100000

/-- The load of a whole row whose guard says yes. -/
theorem wpList_load_rowg {P : Program} {ops : Array Oper} {rest : List Oper} {o : Oper} {a : Act} {w : World} {Q : Exit → Act → World → Prop} (hw : Region.wanted o (yielded ops a.tmps) = true) (ty : TypeId) (x : Operand) (ho : o.op = .load ty x)
    (g : Nat) (hx : a.eval x = .pointer (some ⟨g, 0, none⟩)) (t : TypeId) (cs : Array Value) (fr : Nat × Nat) (d : TypeDesc) (hg : w.heap[g]? = some (.cells cs t fr))
    (hu : P.underlying ty = some d) (hd : (match d with | .struct _ | .array _ _ => true | _ => false) = true) (hi : (P.info? ty).map (·.size) = some cs.size)
    (h : wpList P ops Q rest (a.put o.dst (.agg cs)) w) : wpList P ops Q (o :: rest) a w :=
  BigFrame.wpList_want hw fun _ hK => wp_load_row ty x ho g hx t cs fr d hg hu hd hi (hK _ _ h)
theorem vread_row (y : VP) (hy : y.ty) (hc : vchk y = 0) (m b c : Nat) (W : World) (hm : (venc y).length = m) (hr : Row W b c (venc y)) :
    Calls Try.prog 10 #[.slice (some ⟨b, 0, none⟩) m c] W fun e w' => e = .returned (.tuple #[.agg y.cs, .agg #[.int .i64 0, .int .i64 0]]) ∧ Below W.heap.size W w' := by
  subst hm
  have hcap : (venc y).length ≤ c := by
    obtain ⟨_, _, _, _, h4, _⟩ := hr
    exact h4
  have h := vread_any (some ⟨b, 0, none⟩) c (venc y) W (row_arr hr rfl) (venc_byte y) (by rw [venc_len]; have := fenc_len y.f; omega) hcap
  unfold VReads at h
  rw [vread_enc hy hc] at h
  exact h
theorem eqz (w : World) : (binOp .eql 34 (.agg vp0.cs) (.agg #[.int .u32 0, .int .u32 0, .int .i64 0, .int .i64 0, .int .u32 0, .int .u32 0, .int .u64 0, .int .u64 0, .int .i64 0, .int .i64 0, .int .u64 0, .int .u32 0, .int .u64 0, .int .u32 0, .int .u32 0, .int .u32 0, .int .i64 0, .int .i64 0, .int .i64 0, .int .i64 0, .int .u64 0])).run Try.prog w = .ok (.bool true) w := by
  have h := eql_vp vp0 vp0 w
  rw [VP.same_self] at h
  exact h
theorem neq_self (y : VP) (w : World) : (binOp .neq 34 (.agg y.cs) (.agg y.cs)).run Try.prog w = .ok (.bool false) w := by
  have h := neq_vp y y w
  rw [VP.same_self] at h
  exact h
theorem eql_self (y : VP) (w : World) : (binOp .eql 34 (.agg y.cs) (.agg y.cs)).run Try.prog w = .ok (.bool true) w := by
  have h := eql_vp y y w
  rw [VP.same_self] at h
  exact h

set_option maxHeartbeats 1000000 in
theorem vback_big (x : VP) (A : Option Addr) (c n : Nat) (w : World) (hn : 300 < n) :
    Calls Try.prog 6 #[.agg x.cs, .slice A n c] w fun e w' => e = .returned (.bool true) ∧ Below w.heap.size w w' := by
  have e1 : (300 : Int) < (n : Int) := by omega
  have HB : Hid (Below w.heap.size w (w.alloc (.cells x.cs 34))) := Lib.hid ((Below.refl _ w).alloc (Nat.le_refl _) _)
  go_enter Try.func6, Try.ntmps6
  go_wp2_with fail
  refine (lives8 _).mono ?_
  rintro e w1 ⟨rfl, hb⟩
  have HB1 := Lib.hid (HB.out.trans (hb.mono HB.out.size))
  clear hb HB
  go_wp2_with fail
  go_ret
  exact ⟨rfl, HB1.out⟩

set_option maxHeartbeats 4000000 in
theorem vback_nb (x : VP) (hx : x.ty) (A : Option Addr) (c : Nat) (bs : List Int) (w : World) (hA : Arr w (.slice A bs.length c) bs) (hby : ∀ v ∈ bs, 0 ≤ v ∧ v ≤ 255) (hcap : bs.length ≤ c) (hm : bs.length ≤ 300) (hc : vchk x ≠ 0) (hr : (vread bs).2.1 ≠ 0) :
    Calls Try.prog 6 #[.agg x.cs, .slice A bs.length c] w fun e w' => e = .returned (.bool true) ∧ Below w.heap.size w w' := by
  have HRd : Hid (∀ W, Below w.heap.size w W → Calls Try.prog 10 #[.slice A bs.length c] W (VReads W bs)) := Lib.hid (fun W hb => vread_any A c bs W (hA.below hb) hby (by omega) hcap)
  unfold VReads at HRd
  obtain ⟨n, hn⟩ : ∃ n, bs.length = n := ⟨_, rfl⟩
  obtain ⟨ec, hec⟩ : ∃ ec, vchk x = ec := ⟨_, rfl⟩
  have HBy : Hid (∀ W : World, Calls Try.prog 11 #[.agg x.cs] W fun e w' => e = .returned (.tuple #[.slice none 0 0, .int .i64 ec]) ∧ Below W.heap.size W w') := Lib.hid (fun W => hec ▸ vbytes_no x hx hc W)
  have HCk : Hid (∀ W : World, Calls Try.prog 14 #[.agg x.cs] W fun e w' => e = .returned (.int .i64 ec) ∧ Below W.heap.size W w') := Lib.hid (fun W => hec ▸ vcheck_any x hx W)
  have hne : (ec != 0) = true := by rw [hec] at hc; simpa using hc
  have hne2 : (ec == 0) = false := by rw [hec] at hc; simpa using hc
  clear hec hc hx
  obtain ⟨hv0, hva, hvb⟩ := vread_bad hr
  obtain ⟨er, her⟩ : ∃ er, (vread bs).2.1 = er := ⟨_, rfl⟩
  obtain ⟨i, hi⟩ : ∃ i, (vread bs).2.2 = i := ⟨_, rfl⟩
  rw [hv0, her, hi, hn] at HRd
  rw [hi] at hva hvb
  rw [hn] at hvb
  have her2 : (er != 0) = true := by rw [her] at hr; simpa using hr
  have hez := eqz
  have HN := Lib.hid hn
  have e0 : ¬ ((300 : Int) < (n : Int)) := by omega
  rw [hn]
  clear hn hA hby hcap hm hr hv0 her hi
  have HX : Hid (Has (w.alloc (.cells x.cs 34)) w.heap.size 34 x.cs) := Lib.hid (Has.new _ _ _)
  have HB : Hid (Below w.heap.size w (w.alloc (.cells x.cs 34))) := Lib.hid ((Below.refl _ w).alloc (Nat.le_refl _) _)
  go_enter Try.func6, Try.ntmps6
  go_wp2_with fail
  refine (lives8 _).mono ?_
  rintro e w1 ⟨rfl, hb⟩
  have HX1 := Lib.hid (HX.out.below hb)
  have HB1 := Lib.hid (HB.out.trans (hb.mono HB.out.size))
  clear hb HB HX
  go_wp2_with (first | (refine wpList_load_row rfl 34 (.tmp 2) rfl w.heap.size rfl 34 x.cs (0, 0) _ HX1.out Try.underlying34 rfl x.fit ?_))
  refine (HBy.out _).mono ?_
  rintro e w2 ⟨rfl, hb⟩
  have HX2 := Lib.hid (HX1.out.below hb)
  have HB2 := Lib.hid (HB1.out.trans (hb.mono HB1.out.size))
  clear hb HB1 HX1
  go_wp2_with (first | (refine wpList_load_row rfl 34 (.tmp 2) rfl w.heap.size rfl 34 x.cs (0, 0) _ HX2.out Try.underlying34 rfl x.fit ?_))
  refine (HCk.out _).mono ?_
  rintro e w3 ⟨rfl, hb⟩
  have HX3 := Lib.hid (HX2.out.below hb)
  have HB3 := Lib.hid (HB2.out.trans (hb.mono HB2.out.size))
  clear hb HB2 HX2
  go_wp2_with fail
  refine (HRd.out _ HB3.out).mono ?_
  rintro e w6 ⟨rfl, hb⟩
  have HB6 := Lib.hid (HB3.out.trans (hb.mono HB3.out.size))
  clear hb
  have HSb : Hid (VRW w6 vp0 0 0 ((w6.alloc (.cells #[.int .u32 0, .int .u32 0, .int .i64 0, .int .i64 0, .int .u32 0, .int .u32 0, .int .u64 0, .int .u64 0, .int .i64 0, .int .i64 0, .int .u64 0, .int .u32 0, .int .u64 0, .int .u32 0, .int .u32 0, .int .u32 0, .int .i64 0, .int .i64 0, .int .i64 0, .int .i64 0, .int .u64 0] 34)).alloc (.cells #[.int .i64 0, .int .i64 0] 37))) := Lib.hid (VRW.start w6)
  go_upto_region 13 with (refine wpList_store_row rfl 34 (.tmp 9) (.tmp 54) rfl w6.heap.size vp0.cs rfl rfl 34 vp0.cs HSb.out.zer (VP.fit vp0) rfl (VP.one vp0) ?_; have HTb := Lib.hid (HSb.out.row vp0); generalize ((w6.alloc (.cells #[.int .u32 0, .int .u32 0, .int .i64 0, .int .i64 0, .int .u32 0, .int .u32 0, .int .u64 0, .int .u64 0, .int .i64 0, .int .i64 0, .int .u64 0, .int .u32 0, .int .u64 0, .int .u32 0, .int .u32 0, .int .u32 0, .int .i64 0, .int .i64 0, .int .i64 0, .int .i64 0, .int .u64 0] 34)).alloc (.cells #[.int .i64 0, .int .i64 0] 37)).setRow w6.heap.size vp0.cs = Tb at HTb ⊢; have q0 := HTb.out.flt.cell 0; have q1 := HTb.out.flt.cell 1; have p0 := HTb.out.flt.free 0; have p1 := HTb.out.flt.free 1; simp only [List.getElem?_toArray, List.getElem?_cons_zero, List.getElem?_cons_succ] at q0 q1)
  have HUb := Lib.hid (HTb.out.set er i)
  obtain ⟨Ub, hUb⟩ : ∃ U, ((Tb.setCell ⟨w6.heap.size + 1, 0, none⟩ (.int .i64 er)).setCell ⟨w6.heap.size + 1, 1, none⟩ (.int .i64 i)) = U := ⟨_, rfl⟩
  rw [hUb] at HUb
  try rw [hUb]
  clear hUb q0 q1 p0 p1 HSb HTb
  have z0 := HUb.out.flt.cell 0
  have z1 := HUb.out.flt.cell 1
  simp only [List.getElem?_toArray, List.getElem?_cons_zero, List.getElem?_cons_succ] at z0 z1
  have HB7 := Lib.hid (HB6.out.trans (HUb.out.lo.mono HB6.out.size))
  go_wp2_with (first | (refine wpList_load_row rfl 34 (.tmp 9) rfl w6.heap.size rfl 34 vp0.cs (0, 0) _ HUb.out.zer Try.underlying34 rfl vp0.fit ?_))
  go_ret
  exact ⟨rfl, HB7.out⟩

set_option maxHeartbeats 4000000 in
theorem vback_ng (x : VP) (hx : x.ty) (A : Option Addr) (c : Nat) (bs : List Int) (w : World) (hA : Arr w (.slice A bs.length c) bs) (hby : ∀ v ∈ bs, 0 ≤ v ∧ v ≤ 255) (hcap : bs.length ≤ c) (hm : bs.length ≤ 300) (hc : vchk x ≠ 0) (hr : (vread bs).2.1 = 0) :
    Calls Try.prog 6 #[.agg x.cs, .slice A bs.length c] w fun e w' => e = .returned (.bool true) ∧ Below w.heap.size w w' := by
  have HRd : Hid (∀ W, Below w.heap.size w W → Calls Try.prog 10 #[.slice A bs.length c] W (VReads W bs)) := Lib.hid (fun W hb => vread_any A c bs W (hA.below hb) hby (by omega) hcap)
  unfold VReads at HRd
  obtain ⟨n, hn⟩ : ∃ n, bs.length = n := ⟨_, rfl⟩
  obtain ⟨ec, hec⟩ : ∃ ec, vchk x = ec := ⟨_, rfl⟩
  have HBy : Hid (∀ W : World, Calls Try.prog 11 #[.agg x.cs] W fun e w' => e = .returned (.tuple #[.slice none 0 0, .int .i64 ec]) ∧ Below W.heap.size W w') := Lib.hid (fun W => hec ▸ vbytes_no x hx hc W)
  have HCk : Hid (∀ W : World, Calls Try.prog 14 #[.agg x.cs] W fun e w' => e = .returned (.int .i64 ec) ∧ Below W.heap.size W w') := Lib.hid (fun W => hec ▸ vcheck_any x hx W)
  have hne : (ec != 0) = true := by rw [hec] at hc; simpa using hc
  have hne2 : (ec == 0) = false := by rw [hec] at hc; simpa using hc
  clear hec hc hx
  obtain ⟨h36, _, hvc, hve, hv2, _⟩ := vread_ok hr
  have hty := vread_ty hby hr
  obtain ⟨y, hy⟩ : ∃ y, (vread bs).1 = y := ⟨_, rfl⟩
  rw [hy, hr, hv2, hn] at HRd
  rw [hy] at hvc hve hty
  have HBz : Hid (∀ W : World, Calls Try.prog 11 #[.agg y.cs] W fun e w' => ∃ b c, e = .returned (.tuple #[.slice (some ⟨b, 0, none⟩) n c, .int .i64 0]) ∧ Row w' b c bs ∧ W.heap.size ≤ b ∧ Below W.heap.size W w') := Lib.hid (fun W => by
    have h := vbytes_yes y hty hvc W
    unfold VEnc at h
    rw [hve, hn] at h
    exact h)
  have HAr : Hid (Arr w (.slice A n c) bs) := Lib.hid (hn ▸ hA)
  have HPos : Hid (0 < bs.length) := Lib.hid (by omega)
  have HN := Lib.hid hn
  have e0 : ¬ ((300 : Int) < (n : Int)) := by omega
  rw [hn]
  clear hn hA hby hcap hm hr h36 hvc hve hv2 hty hy
  have HX : Hid (Has (w.alloc (.cells x.cs 34)) w.heap.size 34 x.cs) := Lib.hid (Has.new _ _ _)
  have HB : Hid (Below w.heap.size w (w.alloc (.cells x.cs 34))) := Lib.hid ((Below.refl _ w).alloc (Nat.le_refl _) _)
  go_enter Try.func6, Try.ntmps6
  go_wp2_with fail
  refine (lives8 _).mono ?_
  rintro e w1 ⟨rfl, hb⟩
  have HX1 := Lib.hid (HX.out.below hb)
  have HB1 := Lib.hid (HB.out.trans (hb.mono HB.out.size))
  clear hb HB HX
  go_wp2_with (first | (refine wpList_load_row rfl 34 (.tmp 2) rfl w.heap.size rfl 34 x.cs (0, 0) _ HX1.out Try.underlying34 rfl x.fit ?_))
  refine (HBy.out _).mono ?_
  rintro e w2 ⟨rfl, hb⟩
  have HX2 := Lib.hid (HX1.out.below hb)
  have HB2 := Lib.hid (HB1.out.trans (hb.mono HB1.out.size))
  clear hb HB1 HX1
  go_wp2_with (first | (refine wpList_load_row rfl 34 (.tmp 2) rfl w.heap.size rfl 34 x.cs (0, 0) _ HX2.out Try.underlying34 rfl x.fit ?_))
  refine (HCk.out _).mono ?_
  rintro e w3 ⟨rfl, hb⟩
  have HX3 := Lib.hid (HX2.out.below hb)
  have HB3 := Lib.hid (HB2.out.trans (hb.mono HB2.out.size))
  clear hb HB2 HX2
  go_wp2_with fail
  refine (HRd.out _ HB3.out).mono ?_
  rintro e w6 ⟨rfl, hb⟩
  have HB6 := Lib.hid (HB3.out.trans (hb.mono HB3.out.size))
  clear hb
  have HSb : Hid (VRW w6 vp0 0 0 ((w6.alloc (.cells #[.int .u32 0, .int .u32 0, .int .i64 0, .int .i64 0, .int .u32 0, .int .u32 0, .int .u64 0, .int .u64 0, .int .i64 0, .int .i64 0, .int .u64 0, .int .u32 0, .int .u64 0, .int .u32 0, .int .u32 0, .int .u32 0, .int .i64 0, .int .i64 0, .int .i64 0, .int .i64 0, .int .u64 0] 34)).alloc (.cells #[.int .i64 0, .int .i64 0] 37))) := Lib.hid (VRW.start w6)
  go_upto_region 13 with (refine wpList_store_row rfl 34 (.tmp 9) (.tmp 54) rfl w6.heap.size y.cs rfl rfl 34 vp0.cs HSb.out.zer (VP.fit y) rfl (VP.one y) ?_; have HTb := Lib.hid (HSb.out.row y); generalize ((w6.alloc (.cells #[.int .u32 0, .int .u32 0, .int .i64 0, .int .i64 0, .int .u32 0, .int .u32 0, .int .u64 0, .int .u64 0, .int .i64 0, .int .i64 0, .int .u64 0, .int .u32 0, .int .u64 0, .int .u32 0, .int .u32 0, .int .u32 0, .int .i64 0, .int .i64 0, .int .i64 0, .int .i64 0, .int .u64 0] 34)).alloc (.cells #[.int .i64 0, .int .i64 0] 37)).setRow w6.heap.size y.cs = Tb at HTb ⊢; have q0 := HTb.out.flt.cell 0; have q1 := HTb.out.flt.cell 1; have p0 := HTb.out.flt.free 0; have p1 := HTb.out.flt.free 1; simp only [List.getElem?_toArray, List.getElem?_cons_zero, List.getElem?_cons_succ] at q0 q1)
  have HUb := Lib.hid (HTb.out.set 0 0)
  obtain ⟨Ub, hUb⟩ : ∃ U, ((Tb.setCell ⟨w6.heap.size + 1, 0, none⟩ (.int .i64 0)).setCell ⟨w6.heap.size + 1, 1, none⟩ (.int .i64 0)) = U := ⟨_, rfl⟩
  rw [hUb] at HUb
  try rw [hUb]
  clear hUb q0 q1 p0 p1 HSb HTb
  have z0 := HUb.out.flt.cell 0
  have z1 := HUb.out.flt.cell 1
  simp only [List.getElem?_toArray, List.getElem?_cons_zero, List.getElem?_cons_succ] at z0 z1
  have HB7 := Lib.hid (HB6.out.trans (HUb.out.lo.mono HB6.out.size))
  go_wp2_with (first | (refine wpList_load_row rfl 34 (.tmp 9) rfl w6.heap.size rfl 34 y.cs (0, 0) _ HUb.out.zer Try.underlying34 rfl y.fit ?_))
  refine (HBz.out _).mono ?_
  rintro e w8 ⟨yb, yc, rfl, hrow, _, hb⟩
  have HB8 := Lib.hid (HB7.out.trans (hb.mono HB7.out.size))
  have hc1 := arr_string (row_arr hrow HN.out) HPos.out
  have hc2 := arr_string (HAr.out.below HB8.out) HPos.out
  clear hb hrow z0 z1
  generalize strOfNums bs = st at hc1 hc2
  go_wp2_with fail
  go_ret
  exact ⟨rfl, HB8.out⟩

set_option maxHeartbeats 4000000 in
theorem vback_yb (x : VP) (hx : x.ty) (A : Option Addr) (c : Nat) (bs : List Int) (w : World) (hA : Arr w (.slice A bs.length c) bs) (hby : ∀ v ∈ bs, 0 ≤ v ∧ v ≤ 255) (hcap : bs.length ≤ c) (hm : bs.length ≤ 300) (hc : vchk x = 0) (hr : (vread bs).2.1 ≠ 0) :
    Calls Try.prog 6 #[.agg x.cs, .slice A bs.length c] w fun e w' => e = .returned (.bool true) ∧ Below w.heap.size w w' := by
  have HRd : Hid (∀ W, Below w.heap.size w W → Calls Try.prog 10 #[.slice A bs.length c] W (VReads W bs)) := Lib.hid (fun W hb => vread_any A c bs W (hA.below hb) hby (by omega) hcap)
  unfold VReads at HRd
  obtain ⟨n, hn⟩ : ∃ n, bs.length = n := ⟨_, rfl⟩
  obtain ⟨m, hmm⟩ : ∃ m, (venc x).length = m := ⟨_, rfl⟩
  have HBy : Hid (∀ W : World, Calls Try.prog 11 #[.agg x.cs] W fun e w' => ∃ b c, e = .returned (.tuple #[.slice (some ⟨b, 0, none⟩) m c, .int .i64 0]) ∧ Row w' b c (venc x) ∧ W.heap.size ≤ b ∧ Below W.heap.size W w') := Lib.hid (fun W => hmm ▸ vbytes_yes x hx hc W)
  have HCk : Hid (∀ W : World, Calls Try.prog 14 #[.agg x.cs] W fun e w' => e = .returned (.int .i64 0) ∧ Below W.heap.size W w') := Lib.hid (fun W => hc ▸ vcheck_any x hx W)
  have HRx : Hid (∀ (b c : Nat) (W : World), Row W b c (venc x) → Calls Try.prog 10 #[.slice (some ⟨b, 0, none⟩) m c] W fun e w' => e = .returned (.tuple #[.agg x.cs, .agg #[.int .i64 0, .int .i64 0]]) ∧ Below W.heap.size W w') := Lib.hid (fun b c W hr => vread_row x hx hc m b c W hmm hr)
  have hft := neq_ft 0 0 0 0
  have hnx := neq_self x
  clear hmm hc hx
  obtain ⟨hv0, hva, hvb⟩ := vread_bad hr
  obtain ⟨er, her⟩ : ∃ er, (vread bs).2.1 = er := ⟨_, rfl⟩
  obtain ⟨i, hi⟩ : ∃ i, (vread bs).2.2 = i := ⟨_, rfl⟩
  rw [hv0, her, hi, hn] at HRd
  rw [hi] at hva hvb
  rw [hn] at hvb
  have her2 : (er != 0) = true := by rw [her] at hr; simpa using hr
  have hez := eqz
  have HN := Lib.hid hn
  have e0 : ¬ ((300 : Int) < (n : Int)) := by omega
  rw [hn]
  clear hn hA hby hcap hm hr hv0 her hi
  have HX : Hid (Has (w.alloc (.cells x.cs 34)) w.heap.size 34 x.cs) := Lib.hid (Has.new _ _ _)
  have HB : Hid (Below w.heap.size w (w.alloc (.cells x.cs 34))) := Lib.hid ((Below.refl _ w).alloc (Nat.le_refl _) _)
  go_enter Try.func6, Try.ntmps6
  go_wp2_with fail
  refine (lives8 _).mono ?_
  rintro e w1 ⟨rfl, hb⟩
  have HX1 := Lib.hid (HX.out.below hb)
  have HB1 := Lib.hid (HB.out.trans (hb.mono HB.out.size))
  clear hb HB HX
  go_wp2_with (first | (refine wpList_load_row rfl 34 (.tmp 2) rfl w.heap.size rfl 34 x.cs (0, 0) _ HX1.out Try.underlying34 rfl x.fit ?_))
  refine (HBy.out _).mono ?_
  rintro e w2 ⟨xb, xc, rfl, hrow, _, hb⟩
  have HR2 := Lib.hid hrow
  clear hrow
  have HX2 := Lib.hid (HX1.out.below hb)
  have HB2 := Lib.hid (HB1.out.trans (hb.mono HB1.out.size))
  clear hb HB1 HX1
  go_wp2_with (first | (refine wpList_load_row rfl 34 (.tmp 2) rfl w.heap.size rfl 34 x.cs (0, 0) _ HX2.out Try.underlying34 rfl x.fit ?_))
  refine (HCk.out _).mono ?_
  rintro e w3 ⟨rfl, hb⟩
  have HX3 := Lib.hid (HX2.out.below hb)
  have HB3 := Lib.hid (HB2.out.trans (hb.mono HB2.out.size))
  have HR3 := Lib.hid (HR2.out.below hb)
  clear hb HB2 HX2 HR2
  go_wp2_with fail
  refine (HRx.out _ _ _ HR3.out).mono ?_
  rintro e w4 ⟨rfl, hb⟩
  have HX4 := Lib.hid (HX3.out.below hb)
  have HB4 := Lib.hid (HB3.out.trans (hb.mono HB3.out.size))
  clear hb HB3 HX3 HR3
  have HSa : Hid (VRW w4 vp0 0 0 ((w4.alloc (.cells #[.int .u32 0, .int .u32 0, .int .i64 0, .int .i64 0, .int .u32 0, .int .u32 0, .int .u64 0, .int .u64 0, .int .i64 0, .int .i64 0, .int .u64 0, .int .u32 0, .int .u64 0, .int .u32 0, .int .u32 0, .int .u32 0, .int .i64 0, .int .i64 0, .int .i64 0, .int .i64 0, .int .u64 0] 34)).alloc (.cells #[.int .i64 0, .int .i64 0] 37))) := Lib.hid (VRW.start w4)
  go_upto_region 10 with (refine wpList_store_row rfl 34 (.tmp 7) (.tmp 41) rfl w4.heap.size x.cs rfl rfl 34 vp0.cs HSa.out.zer (VP.fit x) rfl (VP.one x) ?_; have HTa := Lib.hid (HSa.out.row x); generalize ((w4.alloc (.cells #[.int .u32 0, .int .u32 0, .int .i64 0, .int .i64 0, .int .u32 0, .int .u32 0, .int .u64 0, .int .u64 0, .int .i64 0, .int .i64 0, .int .u64 0, .int .u32 0, .int .u64 0, .int .u32 0, .int .u32 0, .int .u32 0, .int .i64 0, .int .i64 0, .int .i64 0, .int .i64 0, .int .u64 0] 34)).alloc (.cells #[.int .i64 0, .int .i64 0] 37)).setRow w4.heap.size x.cs = Ta at HTa ⊢; have q0 := HTa.out.flt.cell 0; have q1 := HTa.out.flt.cell 1; have p0 := HTa.out.flt.free 0; have p1 := HTa.out.flt.free 1; simp only [List.getElem?_toArray, List.getElem?_cons_zero, List.getElem?_cons_succ] at q0 q1)
  have HUa := Lib.hid (HTa.out.set 0 0)
  obtain ⟨Ua, hUa⟩ : ∃ U, ((Ta.setCell ⟨w4.heap.size + 1, 0, none⟩ (.int .i64 0)).setCell ⟨w4.heap.size + 1, 1, none⟩ (.int .i64 0)) = U := ⟨_, rfl⟩
  rw [hUa] at HUa
  try rw [hUa]
  clear hUa q0 q1 p0 p1 HSa HTa
  have z0 := HUa.out.flt.cell 0
  have z1 := HUa.out.flt.cell 1
  simp only [List.getElem?_toArray, List.getElem?_cons_zero, List.getElem?_cons_succ] at z0 z1
  have HX5 := Lib.hid (HX4.out.below HUa.out.lo)
  have HB5 := Lib.hid (HB4.out.trans (HUa.out.lo.mono HB4.out.size))
  clear HX4 HB4
  go_wp2_with (first | (refine wpList_load_rowg (by rfl) 34 (.tmp 7) rfl w4.heap.size rfl 34 x.cs (0, 0) _ HUa.out.zer Try.underlying34 rfl x.fit ?_) | (refine wpList_load_rowg (by rfl) 34 (.tmp 2) rfl w.heap.size rfl 34 x.cs (0, 0) _ HX5.out Try.underlying34 rfl x.fit ?_))
  clear z0 z1
  refine (HRd.out _ HB5.out).mono ?_
  rintro e w6 ⟨rfl, hb⟩
  have HB6 := Lib.hid (HB5.out.trans (hb.mono HB5.out.size))
  clear hb
  have HSb : Hid (VRW w6 vp0 0 0 ((w6.alloc (.cells #[.int .u32 0, .int .u32 0, .int .i64 0, .int .i64 0, .int .u32 0, .int .u32 0, .int .u64 0, .int .u64 0, .int .i64 0, .int .i64 0, .int .u64 0, .int .u32 0, .int .u64 0, .int .u32 0, .int .u32 0, .int .u32 0, .int .i64 0, .int .i64 0, .int .i64 0, .int .i64 0, .int .u64 0] 34)).alloc (.cells #[.int .i64 0, .int .i64 0] 37))) := Lib.hid (VRW.start w6)
  go_upto_region 13 with (refine wpList_store_row rfl 34 (.tmp 9) (.tmp 54) rfl w6.heap.size vp0.cs rfl rfl 34 vp0.cs HSb.out.zer (VP.fit vp0) rfl (VP.one vp0) ?_; have HTb := Lib.hid (HSb.out.row vp0); generalize ((w6.alloc (.cells #[.int .u32 0, .int .u32 0, .int .i64 0, .int .i64 0, .int .u32 0, .int .u32 0, .int .u64 0, .int .u64 0, .int .i64 0, .int .i64 0, .int .u64 0, .int .u32 0, .int .u64 0, .int .u32 0, .int .u32 0, .int .u32 0, .int .i64 0, .int .i64 0, .int .i64 0, .int .i64 0, .int .u64 0] 34)).alloc (.cells #[.int .i64 0, .int .i64 0] 37)).setRow w6.heap.size vp0.cs = Tb at HTb ⊢; have q0 := HTb.out.flt.cell 0; have q1 := HTb.out.flt.cell 1; have p0 := HTb.out.flt.free 0; have p1 := HTb.out.flt.free 1; simp only [List.getElem?_toArray, List.getElem?_cons_zero, List.getElem?_cons_succ] at q0 q1)
  have HUb := Lib.hid (HTb.out.set er i)
  obtain ⟨Ub, hUb⟩ : ∃ U, ((Tb.setCell ⟨w6.heap.size + 1, 0, none⟩ (.int .i64 er)).setCell ⟨w6.heap.size + 1, 1, none⟩ (.int .i64 i)) = U := ⟨_, rfl⟩
  rw [hUb] at HUb
  try rw [hUb]
  clear hUb q0 q1 p0 p1 HSb HTb
  have z0 := HUb.out.flt.cell 0
  have z1 := HUb.out.flt.cell 1
  simp only [List.getElem?_toArray, List.getElem?_cons_zero, List.getElem?_cons_succ] at z0 z1
  have HB7 := Lib.hid (HB6.out.trans (HUb.out.lo.mono HB6.out.size))
  go_wp2_with (first | (refine wpList_load_row rfl 34 (.tmp 9) rfl w6.heap.size rfl 34 vp0.cs (0, 0) _ HUb.out.zer Try.underlying34 rfl vp0.fit ?_))
  go_ret
  exact ⟨rfl, HB7.out⟩

set_option maxHeartbeats 4000000 in
theorem vback_yg (x : VP) (hx : x.ty) (A : Option Addr) (c : Nat) (bs : List Int) (w : World) (hA : Arr w (.slice A bs.length c) bs) (hby : ∀ v ∈ bs, 0 ≤ v ∧ v ≤ 255) (hcap : bs.length ≤ c) (hm : bs.length ≤ 300) (hc : vchk x = 0) (hr : (vread bs).2.1 = 0) :
    Calls Try.prog 6 #[.agg x.cs, .slice A bs.length c] w fun e w' => e = .returned (.bool true) ∧ Below w.heap.size w w' := by
  have HRd : Hid (∀ W, Below w.heap.size w W → Calls Try.prog 10 #[.slice A bs.length c] W (VReads W bs)) := Lib.hid (fun W hb => vread_any A c bs W (hA.below hb) hby (by omega) hcap)
  unfold VReads at HRd
  obtain ⟨n, hn⟩ : ∃ n, bs.length = n := ⟨_, rfl⟩
  obtain ⟨m, hmm⟩ : ∃ m, (venc x).length = m := ⟨_, rfl⟩
  have HBy : Hid (∀ W : World, Calls Try.prog 11 #[.agg x.cs] W fun e w' => ∃ b c, e = .returned (.tuple #[.slice (some ⟨b, 0, none⟩) m c, .int .i64 0]) ∧ Row w' b c (venc x) ∧ W.heap.size ≤ b ∧ Below W.heap.size W w') := Lib.hid (fun W => hmm ▸ vbytes_yes x hx hc W)
  have HCk : Hid (∀ W : World, Calls Try.prog 14 #[.agg x.cs] W fun e w' => e = .returned (.int .i64 0) ∧ Below W.heap.size W w') := Lib.hid (fun W => hc ▸ vcheck_any x hx W)
  have HRx : Hid (∀ (b c : Nat) (W : World), Row W b c (venc x) → Calls Try.prog 10 #[.slice (some ⟨b, 0, none⟩) m c] W fun e w' => e = .returned (.tuple #[.agg x.cs, .agg #[.int .i64 0, .int .i64 0]]) ∧ Below W.heap.size W w') := Lib.hid (fun b c W hr => vread_row x hx hc m b c W hmm hr)
  have hft := neq_ft 0 0 0 0
  have hnx := neq_self x
  clear hmm hc hx
  obtain ⟨h36, _, hvc, hve, hv2, _⟩ := vread_ok hr
  have hty := vread_ty hby hr
  obtain ⟨y, hy⟩ : ∃ y, (vread bs).1 = y := ⟨_, rfl⟩
  rw [hy, hr, hv2, hn] at HRd
  rw [hy] at hvc hve hty
  have HBz : Hid (∀ W : World, Calls Try.prog 11 #[.agg y.cs] W fun e w' => ∃ b c, e = .returned (.tuple #[.slice (some ⟨b, 0, none⟩) n c, .int .i64 0]) ∧ Row w' b c bs ∧ W.heap.size ≤ b ∧ Below W.heap.size W w') := Lib.hid (fun W => by
    have h := vbytes_yes y hty hvc W
    unfold VEnc at h
    rw [hve, hn] at h
    exact h)
  have HAr : Hid (Arr w (.slice A n c) bs) := Lib.hid (hn ▸ hA)
  have HPos : Hid (0 < bs.length) := Lib.hid (by omega)
  have HN := Lib.hid hn
  have e0 : ¬ ((300 : Int) < (n : Int)) := by omega
  rw [hn]
  clear hn hA hby hcap hm hr h36 hvc hve hv2 hty hy
  have HX : Hid (Has (w.alloc (.cells x.cs 34)) w.heap.size 34 x.cs) := Lib.hid (Has.new _ _ _)
  have HB : Hid (Below w.heap.size w (w.alloc (.cells x.cs 34))) := Lib.hid ((Below.refl _ w).alloc (Nat.le_refl _) _)
  go_enter Try.func6, Try.ntmps6
  go_wp2_with fail
  refine (lives8 _).mono ?_
  rintro e w1 ⟨rfl, hb⟩
  have HX1 := Lib.hid (HX.out.below hb)
  have HB1 := Lib.hid (HB.out.trans (hb.mono HB.out.size))
  clear hb HB HX
  go_wp2_with (first | (refine wpList_load_row rfl 34 (.tmp 2) rfl w.heap.size rfl 34 x.cs (0, 0) _ HX1.out Try.underlying34 rfl x.fit ?_))
  refine (HBy.out _).mono ?_
  rintro e w2 ⟨xb, xc, rfl, hrow, _, hb⟩
  have HR2 := Lib.hid hrow
  clear hrow
  have HX2 := Lib.hid (HX1.out.below hb)
  have HB2 := Lib.hid (HB1.out.trans (hb.mono HB1.out.size))
  clear hb HB1 HX1
  go_wp2_with (first | (refine wpList_load_row rfl 34 (.tmp 2) rfl w.heap.size rfl 34 x.cs (0, 0) _ HX2.out Try.underlying34 rfl x.fit ?_))
  refine (HCk.out _).mono ?_
  rintro e w3 ⟨rfl, hb⟩
  have HX3 := Lib.hid (HX2.out.below hb)
  have HB3 := Lib.hid (HB2.out.trans (hb.mono HB2.out.size))
  have HR3 := Lib.hid (HR2.out.below hb)
  clear hb HB2 HX2 HR2
  go_wp2_with fail
  refine (HRx.out _ _ _ HR3.out).mono ?_
  rintro e w4 ⟨rfl, hb⟩
  have HX4 := Lib.hid (HX3.out.below hb)
  have HB4 := Lib.hid (HB3.out.trans (hb.mono HB3.out.size))
  clear hb HB3 HX3 HR3
  have HSa : Hid (VRW w4 vp0 0 0 ((w4.alloc (.cells #[.int .u32 0, .int .u32 0, .int .i64 0, .int .i64 0, .int .u32 0, .int .u32 0, .int .u64 0, .int .u64 0, .int .i64 0, .int .i64 0, .int .u64 0, .int .u32 0, .int .u64 0, .int .u32 0, .int .u32 0, .int .u32 0, .int .i64 0, .int .i64 0, .int .i64 0, .int .i64 0, .int .u64 0] 34)).alloc (.cells #[.int .i64 0, .int .i64 0] 37))) := Lib.hid (VRW.start w4)
  go_upto_region 10 with (refine wpList_store_row rfl 34 (.tmp 7) (.tmp 41) rfl w4.heap.size x.cs rfl rfl 34 vp0.cs HSa.out.zer (VP.fit x) rfl (VP.one x) ?_; have HTa := Lib.hid (HSa.out.row x); generalize ((w4.alloc (.cells #[.int .u32 0, .int .u32 0, .int .i64 0, .int .i64 0, .int .u32 0, .int .u32 0, .int .u64 0, .int .u64 0, .int .i64 0, .int .i64 0, .int .u64 0, .int .u32 0, .int .u64 0, .int .u32 0, .int .u32 0, .int .u32 0, .int .i64 0, .int .i64 0, .int .i64 0, .int .i64 0, .int .u64 0] 34)).alloc (.cells #[.int .i64 0, .int .i64 0] 37)).setRow w4.heap.size x.cs = Ta at HTa ⊢; have q0 := HTa.out.flt.cell 0; have q1 := HTa.out.flt.cell 1; have p0 := HTa.out.flt.free 0; have p1 := HTa.out.flt.free 1; simp only [List.getElem?_toArray, List.getElem?_cons_zero, List.getElem?_cons_succ] at q0 q1)
  have HUa := Lib.hid (HTa.out.set 0 0)
  obtain ⟨Ua, hUa⟩ : ∃ U, ((Ta.setCell ⟨w4.heap.size + 1, 0, none⟩ (.int .i64 0)).setCell ⟨w4.heap.size + 1, 1, none⟩ (.int .i64 0)) = U := ⟨_, rfl⟩
  rw [hUa] at HUa
  try rw [hUa]
  clear hUa q0 q1 p0 p1 HSa HTa
  have z0 := HUa.out.flt.cell 0
  have z1 := HUa.out.flt.cell 1
  simp only [List.getElem?_toArray, List.getElem?_cons_zero, List.getElem?_cons_succ] at z0 z1
  have HX5 := Lib.hid (HX4.out.below HUa.out.lo)
  have HB5 := Lib.hid (HB4.out.trans (HUa.out.lo.mono HB4.out.size))
  clear HX4 HB4
  go_wp2_with (first | (refine wpList_load_rowg (by rfl) 34 (.tmp 7) rfl w4.heap.size rfl 34 x.cs (0, 0) _ HUa.out.zer Try.underlying34 rfl x.fit ?_) | (refine wpList_load_rowg (by rfl) 34 (.tmp 2) rfl w.heap.size rfl 34 x.cs (0, 0) _ HX5.out Try.underlying34 rfl x.fit ?_))
  clear z0 z1
  refine (HRd.out _ HB5.out).mono ?_
  rintro e w6 ⟨rfl, hb⟩
  have HB6 := Lib.hid (HB5.out.trans (hb.mono HB5.out.size))
  clear hb
  have HSb : Hid (VRW w6 vp0 0 0 ((w6.alloc (.cells #[.int .u32 0, .int .u32 0, .int .i64 0, .int .i64 0, .int .u32 0, .int .u32 0, .int .u64 0, .int .u64 0, .int .i64 0, .int .i64 0, .int .u64 0, .int .u32 0, .int .u64 0, .int .u32 0, .int .u32 0, .int .u32 0, .int .i64 0, .int .i64 0, .int .i64 0, .int .i64 0, .int .u64 0] 34)).alloc (.cells #[.int .i64 0, .int .i64 0] 37))) := Lib.hid (VRW.start w6)
  go_upto_region 13 with (refine wpList_store_row rfl 34 (.tmp 9) (.tmp 54) rfl w6.heap.size y.cs rfl rfl 34 vp0.cs HSb.out.zer (VP.fit y) rfl (VP.one y) ?_; have HTb := Lib.hid (HSb.out.row y); generalize ((w6.alloc (.cells #[.int .u32 0, .int .u32 0, .int .i64 0, .int .i64 0, .int .u32 0, .int .u32 0, .int .u64 0, .int .u64 0, .int .i64 0, .int .i64 0, .int .u64 0, .int .u32 0, .int .u64 0, .int .u32 0, .int .u32 0, .int .u32 0, .int .i64 0, .int .i64 0, .int .i64 0, .int .i64 0, .int .u64 0] 34)).alloc (.cells #[.int .i64 0, .int .i64 0] 37)).setRow w6.heap.size y.cs = Tb at HTb ⊢; have q0 := HTb.out.flt.cell 0; have q1 := HTb.out.flt.cell 1; have p0 := HTb.out.flt.free 0; have p1 := HTb.out.flt.free 1; simp only [List.getElem?_toArray, List.getElem?_cons_zero, List.getElem?_cons_succ] at q0 q1)
  have HUb := Lib.hid (HTb.out.set 0 0)
  obtain ⟨Ub, hUb⟩ : ∃ U, ((Tb.setCell ⟨w6.heap.size + 1, 0, none⟩ (.int .i64 0)).setCell ⟨w6.heap.size + 1, 1, none⟩ (.int .i64 0)) = U := ⟨_, rfl⟩
  rw [hUb] at HUb
  try rw [hUb]
  clear hUb q0 q1 p0 p1 HSb HTb
  have z0 := HUb.out.flt.cell 0
  have z1 := HUb.out.flt.cell 1
  simp only [List.getElem?_toArray, List.getElem?_cons_zero, List.getElem?_cons_succ] at z0 z1
  have HB7 := Lib.hid (HB6.out.trans (HUb.out.lo.mono HB6.out.size))
  go_wp2_with (first | (refine wpList_load_row rfl 34 (.tmp 9) rfl w6.heap.size rfl 34 y.cs (0, 0) _ HUb.out.zer Try.underlying34 rfl y.fit ?_))
  refine (HBz.out _).mono ?_
  rintro e w8 ⟨yb, yc, rfl, hrow, _, hb⟩
  have HB8 := Lib.hid (HB7.out.trans (hb.mono HB7.out.size))
  have hc1 := arr_string (row_arr hrow HN.out) HPos.out
  have hc2 := arr_string (HAr.out.below HB8.out) HPos.out
  clear hb hrow z0 z1
  generalize strOfNums bs = st at hc1 hc2
  go_wp2_with fail
  go_ret
  exact ⟨rfl, HB8.out⟩

theorem vback_any (x : VP) (hx : x.ty) (A : Option Addr) (c : Nat) (bs : List Int) (w : World) (hA : Arr w (.slice A bs.length c) bs) (hby : ∀ v ∈ bs, 0 ≤ v ∧ v ≤ 255) (hcap : bs.length ≤ c) :
    Calls Try.prog 6 #[.agg x.cs, .slice A bs.length c] w fun e w' => e = .returned (.bool true) ∧ Below w.heap.size w w' := by
  by_cases hm : bs.length ≤ 300
  · by_cases hc : vchk x = 0
    · by_cases hr : (vread bs).2.1 = 0
      · exact vback_yg x hx A c bs w hA hby hcap hm hc hr
      · exact vback_yb x hx A c bs w hA hby hcap hm hc hr
    · by_cases hr : (vread bs).2.1 = 0
      · exact vback_ng x hx A c bs w hA hby hcap hm hc hr
      · exact vback_nb x hx A c bs w hA hby hcap hm hc hr
  · exact vback_big x A c _ w (by omega)

end Go.Proofs.Ytgdfpmnbofnjfaa
