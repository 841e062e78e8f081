/- VxlanNames: the walk; written by gen_vxv.py. -/
import Derived.Test.YtgdfpmnbofnjfaaZVxQ
import Derived.Deep.OwnRows
import Derived.Great.BuildSlice
import Derived.Deep.RegionHeld3
import Derived.Deep.DeepCutAuto
namespace Go.Proofs.Ytgdfpmnbofnjfaa
open Go.RowKit Go.Maps Go.Shelf
set_option linter.unusedVariables false
set_option linter.unusedSimpArgs false
set_option maxRecDepth 100000

theorem vz35 : vread (List.replicate 35 0) = (vp0, 4, 35) := by kernel_rfl
theorem vz36 : vread (List.replicate 36 0) = (vp0, 6, 9) := by kernel_rfl
theorem vz57 : vread (EV.take 57) = (vp0, 4, 57) := by kernel_rfl
theorem vz23 : vread (EV.set 23 182) = (vp0, 6, 22) := by kernel_rfl
theorem vz35b : vread (EV.set 35 1) = (vp0, 3, 0) := by kernel_rfl
theorem vzero_byte (n : Nat) : ∀ v ∈ List.replicate n (0 : Int), 0 ≤ v ∧ v ≤ 255 := fun v hv => by
  obtain rfl := List.eq_of_mem_replicate hv
  decide
def L5 : List VP := [vpl, vpl, vpl, vpl, vpl]
def BADV : List VP := [{ vpl with t := 256 }, { vpl with n := -1 }, { vpl with v := 16777216 }, { vpl with m := 16777216 }, { vpl with f := { frl with k := 7 } }]
def ERRV : List Int := [2, 2, 2, 2, 6]
theorem badv_err : BADV.map vchk = ERRV := by decide +kernel
theorem badv_ty : ∀ x ∈ BADV, x.ty := by
  intro x hx
  simp only [BADV, List.mem_cons, List.not_mem_nil, or_false] at hx
  have hf : ({ frl with k := 7 } : FR).ty := by constructor <;> decide
  rcases hx with rfl | rfl | rfl | rfl | rfl
  · exact ⟨by decide, by decide, by decide, by decide, by decide, by decide, frl_ty⟩
  · exact ⟨by decide, by decide, by decide, by decide, by decide, by decide, frl_ty⟩
  · exact ⟨by decide, by decide, by decide, by decide, by decide, by decide, frl_ty⟩
  · exact ⟨by decide, by decide, by decide, by decide, by decide, by decide, frl_ty⟩
  · exact ⟨by decide, by decide, by decide, by decide, by decide, by decide, hf⟩
theorem vp_fit_l (x : VP) : (Try.prog.info? 34).map (·.size) = some x.cs.toList.length := vp_fit
def flatV (L : List VP) : List Value := L.flatMap (fun x => x.cs.toList)
theorem flatV_cons (x : VP) (L : List VP) : flatV (x :: L) = x.cs.toList ++ flatV L := by simp [flatV]
theorem vl_len (x : VP) : x.cs.toList.length = 21 := rfl
theorem flatV_at (L : List VP) (i : Nat) (hi : i < L.length) (j : Nat) (hj : j < 21) : (flatV L)[i * 21 + j]? = L[i].cs.toList[j]? := by
  induction L generalizing i with
  | nil => simp at hi
  | cons x L ih =>
    rw [flatV_cons]
    cases i with
    | zero => rw [List.getElem?_append_left (by rw [vl_len]; omega)]; simp
    | succ i =>
      rw [List.getElem?_append_right (by rw [vl_len]; omega), vl_len]
      have := ih i (by simpa using hi)
      rw [show (i + 1) * 21 + j - 21 = i * 21 + j by omega, this]
      simp
theorem rangeV_below {w w' : World} {b o : Nat} {cs : List Value} (h : w.rangeAt b o cs) (hb : Below w.heap.size w w') : w'.rangeAt b o cs := fun j v hv =>
  (hb.cell (p := ⟨b, o + j, none⟩) (cell_block (h j v hv))).trans (h j v hv)
theorem badv_at {w : World} {g : Nat} {t : TypeId} (h : Has w g t (flatV BADV).toArray) (k : Nat) (hk : k < 5) : ∃ (x : VP) (er : Int), w.rangeAt g (k * 21) x.cs.toList ∧ x.ty ∧ vchk x = er ∧ (ERRV.map (Value.int .i64)).toArray[k]? = some (.int .i64 er) := by
  have hkB : k < BADV.length := hk
  refine ⟨BADV[k]'hkB, vchk (BADV[k]'hkB), fun j v hv => ?_, badv_ty _ (List.getElem_mem hkB), rfl, ?_⟩
  · have hj : j < 21 := by have := (List.getElem?_eq_some_iff.1 hv).1; rwa [vl_len] at this
    rw [h.cell, ← Array.getElem?_toList]
    exact (flatV_at BADV k hkB j hj).trans hv
  · rw [← badv_err]
    simp only [List.getElem?_toArray, List.getElem?_map, List.getElem?_eq_getElem hkB, Option.map_some]
theorem info_vp : (Try.prog.info? 34).map (fun i => (i.zero, i.size)) = some (some (.agg vp0.cs), 21) := by kernel_rfl
theorem info_vp2 : ∃ i, Try.prog.info? 34 = some i ∧ i.zero = some (.agg vp0.cs) ∧ i.size = 21 := by
  obtain ⟨i, hi, h⟩ := Option.map_eq_some_iff.1 info_vp
  simp only [Prod.mk.injEq] at h
  exact ⟨i, hi, h.1, h.2⟩
theorem fill_l5 : Instr.fill (fun i => some (i * 21, 21)) ((Array.range (5 * 21)).map ((Value.agg vp0.cs).cells[· % (Value.agg vp0.cs).cells.size]!)) ((L5.map fun x => Value.agg x.cs).zipIdx.map fun x => (x.2, x.1)) = some (flatV L5).toArray := by kernel_rfl
theorem sets_l5 : ((((((flatV L5).toArray.setIfInBounds 2 (.int .i64 256)).setIfInBounds 24 (.int .i64 (-1))).setIfInBounds 46 (.int .u32 16777216)).setIfInBounds 68 (.int .u32 16777216)).setIfInBounds 92 (.int .i64 7)) = (flatV BADV).toArray := by kernel_rfl
theorem l5_2 : (flatV L5).toArray[2]? = some (.int .i64 16) := by kernel_rfl
theorem l5_24 : (flatV L5).toArray[24]? = some (.int .i64 50000) := by kernel_rfl
theorem l5_46 : (flatV L5).toArray[46]? = some (.int .u32 100) := by kernel_rfl
theorem l5_68 : (flatV L5).toArray[68]? = some (.int .u32 0) := by kernel_rfl
theorem l5_92 : (flatV L5).toArray[92]? = some (.int .i64 0) := by kernel_rfl

/-- The faults that were laid. -/
structure VX (w : World) (F : List (Nat × Int × Int)) (W : World) : Prop where
  bel : Below w.heap.size w W
  all : ∀ f ∈ F, Has W f.1 37 #[.int .i64 f.2.1, .int .i64 f.2.2]
theorem VX.below {w W W' : World} {F : List (Nat × Int × Int)} (h : VX w F W) (hb : Below W.heap.size W W') : VX w F W' := ⟨h.bel.trans (hb.mono h.bel.size), fun f hf => (h.all f hf).below hb⟩
theorem VX.lay {w W U : World} {F : List (Nat × Int × Int)} {x : VP} {er i : Int} (h : VX w F W) (hu : VRW W x er i U) : VX w ((W.heap.size + 1, er, i) :: F) U := by
  have h2 := h.below hu.lo
  refine ⟨h2.bel, fun f hf => ?_⟩
  rcases List.mem_cons.1 hf with rfl | hf
  · exact hu.flt
  · exact h2.all f hf
theorem VX.only {w W W' : World} {F : List (Nat × Int × Int)} (h : VX w F W) {g : Nat} (ho : Only W g W') (hg : w.heap.size ≤ g) (hf : ∀ f ∈ F, f.1 ≠ g) : VX w F W' :=
  ⟨below_only h.bel ho hg h.bel.size, fun f hff => (h.all f hff).grown ho (by intro h9; injection h9 with h9; exact hf f hff h9)⟩
/-- Zeros, made. -/
theorem vmake_zeros (w : World) {ops : Array Oper} {rest : List Oper} {o : Oper} {a : Act} {Q : Exit → Act → World → Prop} (hg : o.guard = none) (n : Nat) (hn : n ≤ 1000)
    (hop : o.op = Op.makeSlice 40 (.const (.int .i64 n)) (.const (.int .i64 n))) (hC : madeCells #[.int .u8 0] n = (u8s (List.replicate n 0)).toArray)
    (h : ∀ w', Arr w' (.slice (some ⟨w.heap.size, 0, none⟩) n n) (List.replicate n 0) → Below w.heap.size w w' → wpList Try.prog ops Q rest (a.put o.dst (.slice (some ⟨w.heap.size, 0, none⟩) n n)) w') : wpList Try.prog ops Q (o :: rest) a w := by
  obtain ⟨i0, hi0, hz0, hz1, hz2⟩ := info_parts info_u8
  refine wpList_make_row w hg _ _ 40 hop 5 i0 (.int .u8 0) Try.underlying40 hi0 hz0 hz1 rfl .i64 .i64 n rfl rfl (by rw [hz2]; omega) (by omega) ?_
  refine h _ ?_ ((Below.refl _ w).alloc (Nat.le_refl _) _)
  have h1 := Row.new w (List.replicate n 0) _ hC (by simpa using hn)
  rw [List.length_replicate] at h1
  exact row_arr h1 List.length_replicate
theorem vread_z {w : World} {A : Option Addr} {n c : Nat} {bs : List Int} {er i : Int} (hA : Arr w (.slice A n c) bs) (hn : bs.length = n) (hn2 : n ≤ 1000) (hby : ∀ v ∈ bs, 0 ≤ v ∧ v ≤ 255) (hcap : n ≤ c) (hf : vread bs = (vp0, er, i)) :
    Calls Try.prog 10 #[.slice A n c] w fun e w' => e = .returned (.tuple #[.agg vp0.cs, .agg #[.int .i64 er, .int .i64 i]]) ∧ Below w.heap.size w w' := by
  subst hn
  have h := vread_any A c bs w hA hby (by omega) hcap
  unfold VReads at h
  rw [hf] at h
  exact h

set_option maxHeartbeats 8000000 in
theorem vnames (w : World) : Calls Try.prog 3 #[] w fun e w' => e = .returned (.bool true) ∧ Below w.heap.size w w' := by
  obtain ⟨cs, hcs⟩ : ∃ cs, vpl.cs = cs := ⟨_, rfl⟩
  have HEx : Hid (∀ W : World, Calls Try.prog 12 #[] W fun e w' => e = .returned (.agg cs) ∧ Below W.heap.size W w') := Lib.hid (fun W => hcs ▸ example8 W)
  have HBy : Hid (∀ W : World, Calls Try.prog 11 #[.agg cs] W fun e w' => ∃ b c, e = .returned (.tuple #[.slice (some ⟨b, 0, none⟩) 58 c, .int .i64 0]) ∧ Row w' b c EV ∧ W.heap.size ≤ b ∧ Below W.heap.size W w') := Lib.hid (fun W => hcs ▸ bytes8 W)
  have HCs := Lib.hid hcs
  clear hcs
  go_enter Try.func3, Try.ntmps3
  go_wp2_with fail
  refine (lives8 _).mono ?_
  rintro e w1 ⟨rfl, hb⟩
  have HL : Hid (VX w [] w1) := Lib.hid ⟨hb, fun f hf => by cases hf⟩
  clear hb
  go_wp2_with (refine vmake_zeros _ rfl 35 (by decide) rfl (by kernel_rfl) ?_; intro w2 hr2 hb2; have HR := Lib.hid hr2; have HV := Lib.hid (HL.out.below hb2); clear hr2 hb2 HL)
  refine (vread_z HR.out (by simp) (by decide) (vzero_byte 35) (by decide) vz35).mono ?_
  rintro e y1 ⟨rfl, hb⟩
  have HP1 := Lib.hid (HV.out.below hb)
  clear hb HV HR
  have HS1 : Hid (VRW y1 vp0 0 0 ((y1.alloc (.cells #[.int .u32 0, .int .u32 0, .int .i64 0, .int .i64 0, .int .u32 0, .int .u32 0, .int .u64 0, .int .u64 0, .int .i64 0, .int .i64 0, .int .u64 0, .int .u32 0, .int .u64 0, .int .u32 0, .int .u32 0, .int .u32 0, .int .i64 0, .int .i64 0, .int .i64 0, .int .i64 0, .int .u64 0] 34)).alloc (.cells #[.int .i64 0, .int .i64 0] 37))) := Lib.hid (VRW.start y1)
  go_upto_region 4 with (refine wpList_store_row rfl 34 (.tmp 1) (.tmp 23) rfl y1.heap.size vp0.cs rfl rfl 34 vp0.cs HS1.out.zer (VP.fit vp0) rfl (VP.one vp0) ?_; have HT1 := Lib.hid (HS1.out.row vp0); generalize ((y1.alloc (.cells #[.int .u32 0, .int .u32 0, .int .i64 0, .int .i64 0, .int .u32 0, .int .u32 0, .int .u64 0, .int .u64 0, .int .i64 0, .int .i64 0, .int .u64 0, .int .u32 0, .int .u64 0, .int .u32 0, .int .u32 0, .int .u32 0, .int .i64 0, .int .i64 0, .int .i64 0, .int .i64 0, .int .u64 0] 34)).alloc (.cells #[.int .i64 0, .int .i64 0] 37)).setRow y1.heap.size vp0.cs = T1 at HT1 ⊢; have q0 := HT1.out.flt.cell 0; have q1 := HT1.out.flt.cell 1; have p0 := HT1.out.flt.free 0; have p1 := HT1.out.flt.free 1; simp only [List.getElem?_toArray, List.getElem?_cons_zero, List.getElem?_cons_succ] at q0 q1)
  have HU1 := Lib.hid (HT1.out.set 4 35)
  obtain ⟨U1, hU1⟩ : ∃ U, ((T1.setCell ⟨y1.heap.size + 1, 0, none⟩ (.int .i64 4)).setCell ⟨y1.heap.size + 1, 1, none⟩ (.int .i64 35)) = U := ⟨_, rfl⟩
  rw [hU1] at HU1
  try rw [hU1]
  clear hU1 q0 q1 p0 p1 HS1 HT1
  have HQ1 : Hid (VX w ((y1.heap.size + 1, 4, 35) :: []) U1) := Lib.hid (HP1.out.lay HU1.out)
  clear HU1 HP1
  go_wp2_with (refine vmake_zeros _ rfl 36 (by decide) rfl (by kernel_rfl) ?_; intro w3 hr2 hb2; have HR := Lib.hid hr2; have HV := Lib.hid (HQ1.out.below hb2); clear hr2 hb2 HQ1)
  refine (vread_z HR.out (by simp) (by decide) (vzero_byte 36) (by decide) vz36).mono ?_
  rintro e y2 ⟨rfl, hb⟩
  have HP2 := Lib.hid (HV.out.below hb)
  clear hb HV HR
  have HS2 : Hid (VRW y2 vp0 0 0 ((y2.alloc (.cells #[.int .u32 0, .int .u32 0, .int .i64 0, .int .i64 0, .int .u32 0, .int .u32 0, .int .u64 0, .int .u64 0, .int .i64 0, .int .i64 0, .int .u64 0, .int .u32 0, .int .u64 0, .int .u32 0, .int .u32 0, .int .u32 0, .int .i64 0, .int .i64 0, .int .i64 0, .int .i64 0, .int .u64 0] 34)).alloc (.cells #[.int .i64 0, .int .i64 0] 37))) := Lib.hid (VRW.start y2)
  go_upto_region 5 with (refine wpList_store_row rfl 34 (.tmp 3) (.tmp 28) rfl y2.heap.size vp0.cs rfl rfl 34 vp0.cs HS2.out.zer (VP.fit vp0) rfl (VP.one vp0) ?_; have HT2 := Lib.hid (HS2.out.row vp0); generalize ((y2.alloc (.cells #[.int .u32 0, .int .u32 0, .int .i64 0, .int .i64 0, .int .u32 0, .int .u32 0, .int .u64 0, .int .u64 0, .int .i64 0, .int .i64 0, .int .u64 0, .int .u32 0, .int .u64 0, .int .u32 0, .int .u32 0, .int .u32 0, .int .i64 0, .int .i64 0, .int .i64 0, .int .i64 0, .int .u64 0] 34)).alloc (.cells #[.int .i64 0, .int .i64 0] 37)).setRow y2.heap.size vp0.cs = T2 at HT2 ⊢; have q0 := HT2.out.flt.cell 0; have q1 := HT2.out.flt.cell 1; have p0 := HT2.out.flt.free 0; have p1 := HT2.out.flt.free 1; simp only [List.getElem?_toArray, List.getElem?_cons_zero, List.getElem?_cons_succ] at q0 q1)
  have HU2 := Lib.hid (HT2.out.set 6 9)
  obtain ⟨U2, hU2⟩ : ∃ U, ((T2.setCell ⟨y2.heap.size + 1, 0, none⟩ (.int .i64 6)).setCell ⟨y2.heap.size + 1, 1, none⟩ (.int .i64 9)) = U := ⟨_, rfl⟩
  rw [hU2] at HU2
  try rw [hU2]
  clear hU2 q0 q1 p0 p1 HS2 HT2
  have HQ2 : Hid (VX w ((y2.heap.size + 1, 6, 9) :: (y1.heap.size + 1, 4, 35) :: []) U2) := Lib.hid (HP2.out.lay HU2.out)
  clear HU2 HP2
  go_wp2_with fail
  refine (HEx.out _).mono ?_
  rintro e w4 ⟨rfl, hb⟩
  have HV := Lib.hid (HQ2.out.below hb)
  clear hb HQ2
  go_wp2_with fail
  refine (HBy.out _).mono ?_
  rintro e w5 ⟨b, c, rfl, hrow, hsz, hb⟩
  have HV5 := Lib.hid (HV.out.below hb)
  have hcap : 58 ≤ c := by
    obtain ⟨_, _, _, _, h4, _⟩ := hrow
    rw [ev_len] at h4
    exact h4
  have hc57 : (57 : Int) ≤ (c : Int) := by omega
  have HRow := Lib.hid hrow
  have HCap := Lib.hid hcap
  clear hb HV hrow hsz hcap
  go_wp2_with fail
  refine (vread_z (n := 57) (bs := EV.take 57) (.inr ⟨_, c, rfl, Sl.at_ (HRow.out.part 0 57)⟩) (by decide) (by decide) (fun v hv => ev_byte v (List.mem_of_mem_take hv)) (by have := HCap.out; omega) vz57).mono ?_
  rintro e y3 ⟨rfl, hb⟩
  have HP3 := Lib.hid (HV5.out.below hb)
  have HRow3 := Lib.hid (HRow.out.below hb)
  clear hb HV5 HRow hc57
  have HS3 : Hid (VRW y3 vp0 0 0 ((y3.alloc (.cells #[.int .u32 0, .int .u32 0, .int .i64 0, .int .i64 0, .int .u32 0, .int .u32 0, .int .u64 0, .int .u64 0, .int .i64 0, .int .i64 0, .int .u64 0, .int .u32 0, .int .u64 0, .int .u32 0, .int .u32 0, .int .u32 0, .int .i64 0, .int .i64 0, .int .i64 0, .int .i64 0, .int .u64 0] 34)).alloc (.cells #[.int .i64 0, .int .i64 0] 37))) := Lib.hid (VRW.start y3)
  go_upto_region 9 with (refine wpList_store_row rfl 34 (.tmp 7) (.tmp 42) rfl y3.heap.size vp0.cs rfl rfl 34 vp0.cs HS3.out.zer (VP.fit vp0) rfl (VP.one vp0) ?_; have HT3 := Lib.hid (HS3.out.row vp0); generalize ((y3.alloc (.cells #[.int .u32 0, .int .u32 0, .int .i64 0, .int .i64 0, .int .u32 0, .int .u32 0, .int .u64 0, .int .u64 0, .int .i64 0, .int .i64 0, .int .u64 0, .int .u32 0, .int .u64 0, .int .u32 0, .int .u32 0, .int .u32 0, .int .i64 0, .int .i64 0, .int .i64 0, .int .i64 0, .int .u64 0] 34)).alloc (.cells #[.int .i64 0, .int .i64 0] 37)).setRow y3.heap.size vp0.cs = T3 at HT3 ⊢; have q0 := HT3.out.flt.cell 0; have q1 := HT3.out.flt.cell 1; have p0 := HT3.out.flt.free 0; have p1 := HT3.out.flt.free 1; simp only [List.getElem?_toArray, List.getElem?_cons_zero, List.getElem?_cons_succ] at q0 q1)
  have HU3 := Lib.hid (HT3.out.set 4 57)
  obtain ⟨U3, hU3⟩ : ∃ U, ((T3.setCell ⟨y3.heap.size + 1, 0, none⟩ (.int .i64 4)).setCell ⟨y3.heap.size + 1, 1, none⟩ (.int .i64 57)) = U := ⟨_, rfl⟩
  rw [hU3] at HU3
  try rw [hU3]
  clear hU3 q0 q1 p0 p1 HS3 HT3
  have HQ3 : Hid (VX w ((y3.heap.size + 1, 4, 57) :: (y2.heap.size + 1, 6, 9) :: (y1.heap.size + 1, 4, 35) :: []) U3) := Lib.hid (HP3.out.lay HU3.out)
  have HRow4 := Lib.hid (HRow3.out.below HU3.out.lo)
  clear HU3 HP3 HRow3
  go_wp2_with fail
  refine (own_any _ EV _ (row_arr HRow4.out ev_len) (by decide)).mono ?_
  rintro e w6 ⟨⟨h6, c6, rfl, hr6, hs6⟩, hb⟩
  rw [ev_len]
  have HP6 := Lib.hid (HQ3.out.below hb)
  have HRow6 := Lib.hid (HRow4.out.below hb)
  have hcell := hr6.cell 23 (by decide)
  rw [show EV[23] = 181 from rfl] at hcell
  have hfr : w6.frozen? ⟨h6, 23, none⟩ = false := by
    obtain ⟨_, h1, _⟩ := hr6
    exact h1.free _
  have hcap6 : 58 ≤ c6 := by
    obtain ⟨_, _, _, _, h4, _⟩ := hr6
    rw [ev_len] at h4
    exact h4
  have HC6 := Lib.hid hcap6
  have HR6 := Lib.hid (hr6.set_ 23 182)
  have ho6 : Only w6 h6 (w6.setCell ⟨h6, 23, none⟩ (.int .u8 182)) := only_set (only_refl w6 h6) (p := ⟨h6, 23, none⟩) (.inl rfl) _
  have hbs : b < h6 := Nat.lt_of_lt_of_le HRow4.out.lt hs6
  have HV6 : Hid (VX w ((y3.heap.size + 1, 4, 57) :: (y2.heap.size + 1, 6, 9) :: (y1.heap.size + 1, 4, 35) :: []) (w6.setCell ⟨h6, 23, none⟩ (.int .u8 182))) := Lib.hid (HP6.out.only ho6 (Nat.le_trans HQ3.out.bel.size hs6) (fun f hf => by have := (HQ3.out.all f hf).lt; omega))
  have HRow7 : Hid (Row (w6.setCell ⟨h6, 23, none⟩ (.int .u8 182)) b c EV) := Lib.hid (HRow6.out.grown ho6 (by intro h9; injection h9 with h9; omega))
  clear hb hr6 hs6 hcap6 ho6 hbs HP6 HRow6 HQ3 HRow4
  go_wp2_with fail
  refine (vread_z (bs := EV.set 23 182) (row_arr HR6.out (by rw [List.length_set]; exact ev_len)) (by rw [List.length_set]; exact ev_len) (by decide) (by decide) HC6.out vz23).mono ?_
  rintro e y4 ⟨rfl, hb⟩
  have HP4 := Lib.hid (HV6.out.below hb)
  have HRow8 := Lib.hid (HRow7.out.below hb)
  clear hb HV6 HRow7 HR6 HC6 hcell hfr
  have HS4 : Hid (VRW y4 vp0 0 0 ((y4.alloc (.cells #[.int .u32 0, .int .u32 0, .int .i64 0, .int .i64 0, .int .u32 0, .int .u32 0, .int .u64 0, .int .u64 0, .int .i64 0, .int .i64 0, .int .u64 0, .int .u32 0, .int .u64 0, .int .u32 0, .int .u32 0, .int .u32 0, .int .i64 0, .int .i64 0, .int .i64 0, .int .i64 0, .int .u64 0] 34)).alloc (.cells #[.int .i64 0, .int .i64 0] 37))) := Lib.hid (VRW.start y4)
  go_upto_region 12 with (refine wpList_store_row rfl 34 (.tmp 10) (.tmp 54) rfl y4.heap.size vp0.cs rfl rfl 34 vp0.cs HS4.out.zer (VP.fit vp0) rfl (VP.one vp0) ?_; have HT4 := Lib.hid (HS4.out.row vp0); generalize ((y4.alloc (.cells #[.int .u32 0, .int .u32 0, .int .i64 0, .int .i64 0, .int .u32 0, .int .u32 0, .int .u64 0, .int .u64 0, .int .i64 0, .int .i64 0, .int .u64 0, .int .u32 0, .int .u64 0, .int .u32 0, .int .u32 0, .int .u32 0, .int .i64 0, .int .i64 0, .int .i64 0, .int .i64 0, .int .u64 0] 34)).alloc (.cells #[.int .i64 0, .int .i64 0] 37)).setRow y4.heap.size vp0.cs = T4 at HT4 ⊢; have q0 := HT4.out.flt.cell 0; have q1 := HT4.out.flt.cell 1; have p0 := HT4.out.flt.free 0; have p1 := HT4.out.flt.free 1; simp only [List.getElem?_toArray, List.getElem?_cons_zero, List.getElem?_cons_succ] at q0 q1)
  have HU4 := Lib.hid (HT4.out.set 6 22)
  obtain ⟨U4, hU4⟩ : ∃ U, ((T4.setCell ⟨y4.heap.size + 1, 0, none⟩ (.int .i64 6)).setCell ⟨y4.heap.size + 1, 1, none⟩ (.int .i64 22)) = U := ⟨_, rfl⟩
  rw [hU4] at HU4
  try rw [hU4]
  clear hU4 q0 q1 p0 p1 HS4 HT4
  have HQ4 : Hid (VX w ((y4.heap.size + 1, 6, 22) :: (y3.heap.size + 1, 4, 57) :: (y2.heap.size + 1, 6, 9) :: (y1.heap.size + 1, 4, 35) :: []) U4) := Lib.hid (HP4.out.lay HU4.out)
  have HRow9 := Lib.hid (HRow8.out.below HU4.out.lo)
  clear HU4 HP4 HRow8
  go_wp2_with fail
  refine (own_any _ EV _ (row_arr HRow9.out ev_len) (by decide)).mono ?_
  rintro e w7 ⟨⟨h7, c7, rfl, hr7, hs7⟩, hb⟩
  rw [ev_len]
  have HP7 := Lib.hid (HQ4.out.below hb)
  have hcell := hr7.cell 35 (by decide)
  have hfr : w7.frozen? ⟨h7, 35, none⟩ = false := by
    obtain ⟨_, h1, _⟩ := hr7
    exact h1.free _
  have hcap7 : 58 ≤ c7 := by
    obtain ⟨_, _, _, _, h4, _⟩ := hr7
    rw [ev_len] at h4
    exact h4
  have HC7 := Lib.hid hcap7
  have HR7 := Lib.hid (hr7.set_ 35 1)
  have HV7 : Hid (VX w ((y4.heap.size + 1, 6, 22) :: (y3.heap.size + 1, 4, 57) :: (y2.heap.size + 1, 6, 9) :: (y1.heap.size + 1, 4, 35) :: []) (w7.setCell ⟨h7, 35, none⟩ (.int .u8 1))) := Lib.hid (HP7.out.only (only_set (only_refl w7 h7) (p := ⟨h7, 35, none⟩) (.inl rfl) _) (Nat.le_trans HQ4.out.bel.size hs7) (fun f hf => by have := (HQ4.out.all f hf).lt; omega))
  clear hb hr7 hs7 hcap7 HP7 HQ4 HRow9
  go_wp2_with fail
  refine (vread_z (bs := EV.set 35 1) (row_arr HR7.out (by rw [List.length_set]; exact ev_len)) (by rw [List.length_set]; exact ev_len) (by decide) (by decide) HC7.out vz35b).mono ?_
  rintro e y5 ⟨rfl, hb⟩
  have HP5 := Lib.hid (HV7.out.below hb)
  clear hb HV7 HR7 HC7 hcell hfr
  have HS5 : Hid (VRW y5 vp0 0 0 ((y5.alloc (.cells #[.int .u32 0, .int .u32 0, .int .i64 0, .int .i64 0, .int .u32 0, .int .u32 0, .int .u64 0, .int .u64 0, .int .i64 0, .int .i64 0, .int .u64 0, .int .u32 0, .int .u64 0, .int .u32 0, .int .u32 0, .int .u32 0, .int .i64 0, .int .i64 0, .int .i64 0, .int .i64 0, .int .u64 0] 34)).alloc (.cells #[.int .i64 0, .int .i64 0] 37))) := Lib.hid (VRW.start y5)
  go_upto_region 15 with (refine wpList_store_row rfl 34 (.tmp 13) (.tmp 63) rfl y5.heap.size vp0.cs rfl rfl 34 vp0.cs HS5.out.zer (VP.fit vp0) rfl (VP.one vp0) ?_; have HT5 := Lib.hid (HS5.out.row vp0); generalize ((y5.alloc (.cells #[.int .u32 0, .int .u32 0, .int .i64 0, .int .i64 0, .int .u32 0, .int .u32 0, .int .u64 0, .int .u64 0, .int .i64 0, .int .i64 0, .int .u64 0, .int .u32 0, .int .u64 0, .int .u32 0, .int .u32 0, .int .u32 0, .int .i64 0, .int .i64 0, .int .i64 0, .int .i64 0, .int .u64 0] 34)).alloc (.cells #[.int .i64 0, .int .i64 0] 37)).setRow y5.heap.size vp0.cs = T5 at HT5 ⊢; have q0 := HT5.out.flt.cell 0; have q1 := HT5.out.flt.cell 1; have p0 := HT5.out.flt.free 0; have p1 := HT5.out.flt.free 1; simp only [List.getElem?_toArray, List.getElem?_cons_zero, List.getElem?_cons_succ] at q0 q1)
  have HU5 := Lib.hid (HT5.out.set 3 0)
  obtain ⟨U5, hU5⟩ : ∃ U, ((T5.setCell ⟨y5.heap.size + 1, 0, none⟩ (.int .i64 3)).setCell ⟨y5.heap.size + 1, 1, none⟩ (.int .i64 0)) = U := ⟨_, rfl⟩
  rw [hU5] at HU5
  try rw [hU5]
  clear hU5 q0 q1 p0 p1 HS5 HT5
  have HQ5 : Hid (VX w ((y5.heap.size + 1, 3, 0) :: (y4.heap.size + 1, 6, 22) :: (y3.heap.size + 1, 4, 57) :: (y2.heap.size + 1, 6, 9) :: (y1.heap.size + 1, 4, 35) :: []) U5) := Lib.hid (HP5.out.lay HU5.out)
  clear HU5 HP5
  go_wp2_with fail
  refine (HEx.out _).mono ?_
  rintro e x0 ⟨rfl, hb⟩
  have HE0 := Lib.hid (HQ5.out.below hb)
  clear hb HQ5
  go_wp2_with fail
  refine (HEx.out _).mono ?_
  rintro e x1 ⟨rfl, hb⟩
  have HE1 := Lib.hid (HE0.out.below hb)
  clear hb HE0
  go_wp2_with fail
  refine (HEx.out _).mono ?_
  rintro e x2 ⟨rfl, hb⟩
  have HE2 := Lib.hid (HE1.out.below hb)
  clear hb HE1
  go_wp2_with fail
  refine (HEx.out _).mono ?_
  rintro e x3 ⟨rfl, hb⟩
  have HE3 := Lib.hid (HE2.out.below hb)
  clear hb HE2
  go_wp2_with fail
  refine (HEx.out _).mono ?_
  rintro e x4 ⟨rfl, hb⟩
  have HE4 := Lib.hid (HE3.out.below hb)
  clear hb HE3
  rw [← HCs.out]
  obtain ⟨i1, hi1, hy0, hy1⟩ := info_vp2
  go_upto_region 16 with (refine wpList_buildSlice rfl 45 34 5 _ rfl (flatV L5).toArray i1 (.agg vp0.cs) Try.underlying45 hi1 hy0 (by rw [hy1]; decide) (by rw [hy1]; decide) (by rw [hy1, Array.toList_map]; exact fill_l5) ?_)
  have hh8 := Has.new x4 34 (flatV L5).toArray
  have HP8 := Lib.hid (HE4.out.below ((Below.refl _ x4).alloc (Nat.le_refl _) (.cells (flatV L5).toArray 34)))
  have HSx : Hid (w.heap.size ≤ x4.heap.size ∧ ∀ f ∈ ((y5.heap.size + 1, 3, 0) :: (y4.heap.size + 1, 6, 22) :: (y3.heap.size + 1, 4, 57) :: (y2.heap.size + 1, 6, 9) :: (y1.heap.size + 1, 4, 35) :: [] : List (Nat × Int × Int)), f.1 < x4.heap.size) := Lib.hid ⟨HE4.out.bel.size, fun f hf => (HE4.out.all f hf).lt⟩
  obtain ⟨W8, hW8⟩ : ∃ W, x4.alloc (.cells (flatV L5).toArray 34) = W := ⟨_, rfl⟩
  obtain ⟨gB, hgB⟩ : ∃ g, x4.heap.size = g := ⟨_, rfl⟩
  rw [hW8] at hh8 HP8 ⊢
  rw [hgB] at hh8 HSx ⊢
  clear hW8 hgB HE4 hi1 hy0 hy1 HEx HBy HCs
  have d2 := (hh8.cell 2).trans l5_2
  have d24 := (hh8.cell 24).trans l5_24
  have d46 := (hh8.cell 46).trans l5_46
  have d68 := (hh8.cell 68).trans l5_68
  have d92 := (hh8.cell 92).trans l5_92
  have r2 := hh8.free 2
  have r24 := hh8.free 24
  have r46 := hh8.free 46
  have r68 := hh8.free 68
  have r92 := hh8.free 92
  have hN := ((((hh8.set_ 2 (.int .i64 256)).set_ 24 (.int .i64 (-1))).set_ 46 (.int .u32 16777216)).set_ 68 (.int .u32 16777216)).set_ 92 (.int .i64 7)
  rw [sets_l5] at hN
  have ho : Only W8 gB (((((W8.setCell ⟨gB, 2, none⟩ (.int .i64 256)).setCell ⟨gB, 24, none⟩ (.int .i64 (-1))).setCell ⟨gB, 46, none⟩ (.int .u32 16777216)).setCell ⟨gB, 68, none⟩ (.int .u32 16777216)).setCell ⟨gB, 92, none⟩ (.int .i64 7)) := only_set (only_set (only_set (only_set (only_set (only_refl W8 gB) (p := ⟨gB, 2, none⟩) (.inl rfl) _) (p := ⟨gB, 24, none⟩) (.inl rfl) _) (p := ⟨gB, 46, none⟩) (.inl rfl) _) (p := ⟨gB, 68, none⟩) (.inl rfl) _) (p := ⟨gB, 92, none⟩) (.inl rfl) _
  have HN9 := Lib.hid hN
  have HV9 := Lib.hid (HP8.out.only ho HSx.out.1 (fun f hf => Nat.ne_of_lt (HSx.out.2 f hf)))
  clear hN ho hh8 HP8
  go_upto_region 17 with fail
  obtain ⟨W9, hW9⟩ : ∃ W, (((((W8.setCell ⟨gB, 2, none⟩ (.int .i64 256)).setCell ⟨gB, 24, none⟩ (.int .i64 (-1))).setCell ⟨gB, 46, none⟩ (.int .u32 16777216)).setCell ⟨gB, 68, none⟩ (.int .u32 16777216)).setCell ⟨gB, 92, none⟩ (.int .i64 7)) = W := ⟨_, rfl⟩
  rw [hW9] at HN9 HV9 ⊢
  clear hW9 d2 d24 d46 d68 d92 r2 r24 r46 r68 r92
  go_upto_region 18 with (refine wpList_buildFlat rfl _ _ 5 _ rfl .i64 ERRV Try.underlying46 (by kernel_rfl) (by kernel_rfl) rfl (by decide) (by decide) rfl ?_)
  have hh13 := Has.new W9 35 (ERRV.map (Value.int .i64)).toArray
  have HP13 := Lib.hid (HV9.out.below ((Below.refl _ W9).alloc (Nat.le_refl _) (.cells (ERRV.map (Value.int .i64)).toArray 35)))
  have HB13 := Lib.hid (HN9.out.below ((Below.refl _ W9).alloc (Nat.le_refl _) (.cells (ERRV.map (Value.int .i64)).toArray 35)))
  obtain ⟨W13, hW13⟩ : ∃ W, W9.alloc (.cells (ERRV.map (Value.int .i64)).toArray 35) = W := ⟨_, rfl⟩
  rw [hW13] at hh13 HP13 HB13 ⊢
  have HE13 := Lib.hid hh13
  clear hh13 hW13 HV9 HN9
  obtain ⟨gE, hgE⟩ : ∃ g, W9.heap.size = g := ⟨_, rfl⟩
  rw [hgE] at HE13 ⊢
  clear hgE
  go_wp2_with fail
  go_loopw [17] (fun i wr => ∃ k : Nat, k ≤ 5 ∧ i = .int .i64 k ∧ Below W13.heap.size W13 wr) (fun i _ => 5 - (intOf i).toNat)
  case atStart => exact ⟨0, by omega, rfl, Below.refl _ _⟩
  case round =>
    obtain ⟨k, hk, rfl, hbel⟩ := hrel
    have HBel := Lib.hid hbel
    clear hbel
    by_cases hlt : k < 5
    · obtain ⟨x, er, hx3, hty, hce, her⟩ := badv_at HB13.out k hlt
      have HX := Lib.hid hx3
      have HTy := Lib.hid hty
      have HCe := Lib.hid hce
      have HErr : Hid (∀ w', Below W13.heap.size W13 w' → w'.cell? ⟨gE, k, none⟩ = some (.int .i64 er)) := Lib.hid (fun w' hb => by
        rw [((HE13.out.below hb).cell k)]
        exact her)
      clear hx3 hty hce her
      go_wp2_with fail
      have HS0 : Hid (Below W13.heap.size W13 wr.drew) := Lib.hid HBel.out.drew
      refine wp_region_held_drew (S := fun w' => Below W13.heap.size W13 w') (by kernel_rfl) HS0.out (fun hHeld => ?_)
      refine wpAnyH_take (i := 0) (oi := { dst := some 94, op := Go.Op.move (Go.Operand.tmp 15), type := 45, pos := "law.go:45", after := #[], guard := none }) (v := ?_) rfl (by kernel_rfl) (by kernel_rfl) (by kernel_rfl) (fun _ _ _ h => h) (Or.inl ⟨by rfl, ?_⟩) (by assumption) ?_
      rotate_left
      · intro wS hSw
        clear hSw
        go_simp
        try with_reducible rfl
      try simp only [Act.put, List.setIfInBounds_toArray, List.set_cons_zero, List.set_cons_succ]
      refine wpAnyH_take (i := 1) (oi := { dst := some 95, op := Go.Op.move (Go.Operand.tmp 17), type := 3, pos := "law.go:45", after := #[], guard := none }) (v := ?_) rfl (by kernel_rfl) (by kernel_rfl) (by kernel_rfl) (fun _ _ _ h => h) (Or.inl ⟨by rfl, ?_⟩) (by assumption) ?_
      rotate_left
      · intro wS hSw
        clear hSw
        go_simp
        try with_reducible rfl
      try simp only [Act.put, List.setIfInBounds_toArray, List.set_cons_zero, List.set_cons_succ]
      refine wpAnyH_take (i := 2) (oi := { dst := some 96, op := Go.Op.indexAddr 45 (Go.Operand.tmp 94) (Go.Operand.tmp 95), type := 0, pos := "law.go:45", after := #[{ on := 0, ground := Go.Ground.data }, { on := 1, ground := Go.Ground.data }], guard := none }) (v := ?_) rfl (by kernel_rfl) (by kernel_rfl) (by kernel_rfl) (fun _ _ _ h => h) (Or.inl ⟨by rfl, ?_⟩) (by assumption) ?_
      rotate_left
      · intro wS hSw
        clear hSw
        go_simp
        try with_reducible rfl
      try simp only [Act.put, List.setIfInBounds_toArray, List.set_cons_zero, List.set_cons_succ]
      refine wpAnyH_take (i := 3) (oi := { dst := some 97, op := Go.Op.load 34 (Go.Operand.tmp 96), type := 34, pos := "law.go:45", after := #[{ on := 2, ground := Go.Ground.data }], guard := none }) (v := .agg x.cs) rfl (by kernel_rfl) (by kernel_rfl) (by kernel_rfl) (fun _ _ _ h => h) (yieldsIf_load_mid (by rfl) 34 (.tmp 96) rfl gB (k * 21) rfl x.cs.toList _ (fun _ h => rangeV_below HX.out h) Try.underlying34 rfl (vp_fit_l x)) (by assumption) ?_
      try simp only [Act.put, List.setIfInBounds_toArray, List.set_cons_zero, List.set_cons_succ]
      refine wpAnyH_take (i := 5) (oi := { dst := some 99, op := Go.Op.move (Go.Operand.tmp 16), type := 46, pos := "law.go:45", after := #[], guard := none }) (v := ?_) rfl (by kernel_rfl) (by kernel_rfl) (by kernel_rfl) (fun _ _ _ h => h) (Or.inl ⟨by rfl, ?_⟩) (by assumption) ?_
      rotate_left
      · intro wS hSw
        clear hSw
        go_simp
        try with_reducible rfl
      try simp only [Act.put, List.setIfInBounds_toArray, List.set_cons_zero, List.set_cons_succ]
      refine wpAnyH_take (i := 6) (oi := { dst := some 100, op := Go.Op.move (Go.Operand.tmp 17), type := 3, pos := "law.go:45", after := #[], guard := none }) (v := ?_) rfl (by kernel_rfl) (by kernel_rfl) (by kernel_rfl) (fun _ _ _ h => h) (Or.inl ⟨by rfl, ?_⟩) (by assumption) ?_
      rotate_left
      · intro wS hSw
        clear hSw
        go_simp
        try with_reducible rfl
      try simp only [Act.put, List.setIfInBounds_toArray, List.set_cons_zero, List.set_cons_succ]
      refine wpAnyH_take (i := 7) (oi := { dst := some 101, op := Go.Op.indexAddr 46 (Go.Operand.tmp 99) (Go.Operand.tmp 100), type := 0, pos := "law.go:45", after := #[{ on := 5, ground := Go.Ground.data }, { on := 6, ground := Go.Ground.data }], guard := none }) (v := ?_) rfl (by kernel_rfl) (by kernel_rfl) (by kernel_rfl) (fun _ _ _ h => h) (Or.inl ⟨by rfl, ?_⟩) (by assumption) ?_
      rotate_left
      · intro wS hSw
        clear hSw
        go_simp
        try with_reducible rfl
      try simp only [Act.put, List.setIfInBounds_toArray, List.set_cons_zero, List.set_cons_succ]
      refine wpAnyH_take (i := 8) (oi := { dst := some 102, op := Go.Op.load 35 (Go.Operand.tmp 101), type := 35, pos := "law.go:45", after := #[{ on := 7, ground := Go.Ground.data }], guard := none }) (v := ?_) rfl (by kernel_rfl) (by kernel_rfl) (by kernel_rfl) (fun _ _ _ h => h) (Or.inl ⟨by rfl, ?_⟩) (by assumption) ?_
      rotate_left
      · intro wS hSw
        have hSe := HErr.out wS hSw
        clear hSw
        go_simp
        try with_reducible rfl
      try simp only [Act.put, List.setIfInBounds_toArray, List.set_cons_zero, List.set_cons_succ]
      refine wpAnyH_ready (rs := [4]) (by kernel_rfl) (by simp) ?_
      refine AllReadyH.cons (o := { dst := some 98, op := Go.Op.call { callee := Go.Callee.value (Go.Operand.func 14), args := #[Go.Operand.tmp 97], argTypes := #[34] }, type := 35, pos := "law.go:45", after := #[{ on := 3, ground := Go.Ground.data }], guard := none }) rfl (fun K hK => ?_) AllReadyH.nil
      go_simp
      go_at_call 14
      refine (vcheck_any x HTy.out _).mono ?_
      rintro en w20 ⟨rfl, hb20⟩
      rw [HCe.out]
      refine hK.out _ _ ?_ (fun hHeld => ?_)
      · exact HS0.out.trans (hb20.mono HS0.out.size)
      clear hK K
      try simp only [Act.put, List.setIfInBounds_toArray, List.set_cons_zero, List.set_cons_succ]
      refine wpAnyH_take (i := 9) (oi := { dst := some 103, op := Go.Op.binOp Go.BinOp.neq 35 (Go.Operand.tmp 98) (Go.Operand.tmp 102) 35, type := 4, pos := "law.go:45", after := #[{ on := 4, ground := Go.Ground.data }, { on := 8, ground := Go.Ground.data }], guard := none }) (v := ?_) rfl (by kernel_rfl) (by kernel_rfl) (by kernel_rfl) (fun _ _ _ h => h) (Or.inl ⟨by rfl, ?_⟩) (by assumption) ?_
      rotate_left
      · intro wS hSw
        clear hSw
        go_simp
        try with_reducible rfl
      try simp only [Act.put, List.setIfInBounds_toArray, List.set_cons_zero, List.set_cons_succ]
      refine wpAnyH_done (by kernel_rfl) ?_ _
      go_wp2_with fail
      go_roundw
      case rel => exact ⟨k + 1, by omega, by go_num, HS0.out.trans (hb20.mono HS0.out.size)⟩
      case measure => simp [intOf]; omega
    · obtain rfl : k = 5 := by omega
      have HNr := Lib.hid (HP13.out.below HBel.out)
      have f0 := HNr.out.all (y1.heap.size + 1, 4, 35) (by simp)
      have d00 := f0.cell 0
      have d01 := f0.cell 1
      have g0 := eql_ft 4 35 4 35
      have f1 := HNr.out.all (y2.heap.size + 1, 6, 9) (by simp)
      have d10 := f1.cell 0
      have d11 := f1.cell 1
      have g1 := eql_ft 6 9 6 9
      have f2 := HNr.out.all (y3.heap.size + 1, 4, 57) (by simp)
      have d20 := f2.cell 0
      have d21 := f2.cell 1
      have g2 := eql_ft 4 57 4 57
      have f3 := HNr.out.all (y4.heap.size + 1, 6, 22) (by simp)
      have d30 := f3.cell 0
      have d31 := f3.cell 1
      have g3 := eql_ft 6 22 6 22
      have f4 := HNr.out.all (y5.heap.size + 1, 3, 0) (by simp)
      have d40 := f4.cell 0
      have d41 := f4.cell 1
      have g4 := eql_ft 3 0 3 0
      simp only [beq_self_eq_true, Bool.and_self] at g0 g1 g2 g3 g4
      simp only [List.getElem?_toArray, List.getElem?_cons_zero, List.getElem?_cons_succ] at d00 d01 d10 d11 d20 d21 d30 d31 d40 d41
      have HBr := Lib.hid HNr.out.bel
      clear f0 f1 f2 f3 f4
      go_wp2_with fail
      refine (hash_arr _ [0] _ (row_arr (Row.new wr [0] _ rfl (by decide)) rfl) (by decide) (by decide)).mono ?_
      rintro e w31 ⟨rfl, rfl⟩
      rw [fnv_zero]
      have HB31 : Hid (Below w.heap.size w (wr.alloc (.cells #[.int .u8 0] 5))) := Lib.hid (HBr.out.alloc HBr.out.size _)
      clear HBr HNr
      go_wp2_with fail
      go_ret
      exact ⟨rfl, HB31.out⟩

end Go.Proofs.Ytgdfpmnbofnjfaa
