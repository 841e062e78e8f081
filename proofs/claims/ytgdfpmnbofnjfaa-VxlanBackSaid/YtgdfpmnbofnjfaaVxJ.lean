/- Packets that carry frames: the headers decoded, the frame inside read; written by gen_vxr.py. -/
import Derived.Test.YtgdfpmnbofnjfaaVxE
import Derived.Defers
namespace Go.Proofs.Ytgdfpmnbofnjfaa
open Go.RowKit Go.Shelf
set_option linter.unusedVariables false
set_option linter.unusedSimpArgs false
set_option maxRecDepth 100000

theorem q3 (g h cap : Nat) (bs : List Int) (p p' : Nat) (w : World) (H : RdS w g h cap ⟨bs, 0, p, 0, 0⟩) (hp : p + 3 ≤ bs.length) (he : p + 3 = p') :
    Calls Try.prog 49 #[.pointer (some ⟨g, 0, none⟩)] w fun e w' => e = .returned (.int .u64 (nm bs p 3)) ∧ RdS w' g h cap ⟨bs, 0, p', 0, 0⟩ ∧ Only w g w' := by
  have h := rU3 g h cap _ w H
  have ht : ((⟨bs, 0, p, 0, 0⟩ : RS).take 3).2 = ⟨bs, 0, p', 0, 0⟩ := take_at (m := 3) hp he
  rw [got_at hp, ht] at h
  exact h
theorem in3 {v : Int} (h : 0 ≤ v ∧ v < 256 ^ 3) : IntKind.u32.wrap v = v := by
  have e : IntKind.u32.wrap v = v % 4294967296 := by rfl
  rw [e]; omega
/-- A reader at work, a packet in a block of the call's own, and a block of zeros for the result. -/
structure VRB (w0 : World) (g h cap : Nat) (s : RS) (B R : Nat) (x : VP) (W : World) : Prop where
  rd : RdS W g h cap s
  box : Has W B 34 x.cs
  zer : Has W R 34 vp0.cs
  gB : g ≠ B
  hB : h ≠ B
  gR : g ≠ R
  hR : h ≠ R
  BR : B ≠ R
  on : Only w0 g W
  nw : w0.heap.size ≤ B
  nr : w0.heap.size ≤ R
section
variable {w0 W W' : World} {g h cap B R : Nat} {s s' : RS} {x : VP}
theorem VRB.call (H : VRB w0 g h cap s B R x W) (r : RdS W' g h cap s') (o : Only W g W') : VRB w0 g h cap s' B R x W' :=
  ⟨r, H.box.grown o (by rintro ⟨⟩; exact H.gB rfl), H.zer.grown o (by rintro ⟨⟩; exact H.gR rfl), H.gB, H.hB, H.gR, H.hR, H.BR, only_trans H.on o, H.nw, H.nr⟩
theorem VRB.below (H : VRB w0 g h cap s B R x W) (hb : Below W.heap.size W W') : VRB w0 g h cap s B R x W' :=
  ⟨Rd.below H.rd hb, H.box.below hb, H.zer.below hb, H.gB, H.hB, H.gR, H.hR, H.BR, only_trans H.on (only_below hb g), H.nw, H.nr⟩
theorem VRB.set (H : VRB w0 g h cap s B R x W) (i : Nat) (u : Value) (x' : VP) (he : x.cs.setIfInBounds i u = x'.cs) : VRB w0 g h cap s B R x' (W.setCell ⟨B, i, none⟩ u) :=
  ⟨Rd.grown H.rd (only_set (only_refl W B) (p := ⟨B, i, none⟩) (.inl rfl) u) (by rintro ⟨⟩; exact H.gB rfl) (by rintro ⟨⟩; exact H.hB rfl), he ▸ H.box.set_ i u, H.zer.grown (only_set (only_refl W B) (p := ⟨B, i, none⟩) (.inl rfl) u) (by rintro ⟨⟩; exact H.BR rfl), H.gB, H.hB, H.gR, H.hR, H.BR, only_set H.on (p := ⟨B, i, none⟩) (.inr H.nw) u, H.nw, H.nr⟩
theorem VRB.end_ (H : VRB w0 g h cap s B R x W) : RdS (W.setRow R x.cs) g h cap s ∧ Only w0 g (W.setRow R x.cs) := by
  have h1 : Only W R (W.setRow R x.cs) := Only.row _
  have hs := H.on.size
  exact ⟨Rd.grown H.rd h1 (by rintro ⟨⟩; exact H.gR rfl) (by rintro ⟨⟩; exact H.hR rfl), ⟨h1.os.trans H.on.os, h1.tape.trans H.on.tape, h1.output.trans H.on.output, Nat.le_trans H.on.size h1.size, fun i hi hne => (h1.block i (Nat.lt_of_lt_of_le hi hs) (by rintro ⟨⟩; have := H.nr; omega)).trans (H.on.block i hi hne)⟩⟩
end
theorem VRB.mk1 {w w1 : World} {g h cap R : Nat} {s : RS} {x : VP} (H : RdS w1 g h cap s) (hR : g ≠ R) (hR2 : h ≠ R) (hz : Has w1 R 34 vp0.cs) (hl : Below w.heap.size w w1) (hr : w.heap.size ≤ R) : VRB w g h cap s w1.heap.size R x (w1.alloc (.cells x.cs 34)) := by
  have hl2 := RdS.lts H
  have hb : Below w1.heap.size w1 (w1.alloc (.cells x.cs 34)) := (Below.refl _ w1).alloc (Nat.le_refl _) _
  have hlt := hz.lt
  exact ⟨Rd.below H hb, Has.new w1 _ _, hz.below hb, by omega, by omega, hR, hR2, by omega, only_below (hl.trans (hb.mono hl.size)) g, hl.size, hr⟩

theorem setv_a (x : VP) (v : Int) : x.cs.setIfInBounds 0 (.int .u32 v) = ({ x with a := v } : VP).cs := by simp only [VP.cs, List.setIfInBounds_toArray, List.set_cons_zero, List.set_cons_succ]
theorem setv_b (x : VP) (v : Int) : x.cs.setIfInBounds 1 (.int .u32 v) = ({ x with b := v } : VP).cs := by simp only [VP.cs, List.setIfInBounds_toArray, List.set_cons_zero, List.set_cons_succ]
theorem setv_t (x : VP) (v : Int) : x.cs.setIfInBounds 2 (.int .i64 v) = ({ x with t := v } : VP).cs := by simp only [VP.cs, List.setIfInBounds_toArray, List.set_cons_zero, List.set_cons_succ]
theorem setv_n (x : VP) (v : Int) : x.cs.setIfInBounds 3 (.int .i64 v) = ({ x with n := v } : VP).cs := by simp only [VP.cs, List.setIfInBounds_toArray, List.set_cons_zero, List.set_cons_succ]
theorem setv_v (x : VP) (v : Int) : x.cs.setIfInBounds 4 (.int .u32 v) = ({ x with v := v } : VP).cs := by simp only [VP.cs, List.setIfInBounds_toArray, List.set_cons_zero, List.set_cons_succ]
theorem setv_m (x : VP) (v : Int) : x.cs.setIfInBounds 5 (.int .u32 v) = ({ x with m := v } : VP).cs := by simp only [VP.cs, List.setIfInBounds_toArray, List.set_cons_zero, List.set_cons_succ]

set_option maxHeartbeats 4000000 in
theorem vdecode (bs : List Int) (hlen : bs.length = 36) (hby : ∀ v ∈ bs, 0 ≤ v ∧ v ≤ 255) (w : World) :
    Calls Try.prog 25 #[.agg (u8s bs).toArray] w fun e w' => e = .returned (.agg (vdec bs fr0).cs) ∧ Below w.heap.size w w' := by
  obtain ⟨cs, hcs⟩ : ∃ cs, (u8s bs).toArray = cs := ⟨_, rfl⟩
  have HC := Lib.hid hcs
  rw [hcs]
  clear hcs
  have HLen := Lib.hid hlen
  have HBy := Lib.hid hby
  clear hlen hby
  have HB0 : Hid (Has ((w.alloc (.cells cs 59)).alloc (.cells #[.int .u32 0, .int .u32 0, .int .i64 0, .int .i64 0, .int .u32 0, .int .u32 0, .int .u64 0, .int .u64 0, .int .i64 0, .int .i64 0, .int .u64 0, .int .u32 0, .int .u64 0, .int .u32 0, .int .u32 0, .int .u32 0, .int .i64 0, .int .i64 0, .int .i64 0, .int .i64 0, .int .u64 0] 34)) w.heap.size 59 cs) := Lib.hid ((Has.new w _ _).below ((Below.refl _ _).alloc (Nat.le_refl _) _))
  have HZ0 : Hid (Has ((w.alloc (.cells cs 59)).alloc (.cells #[.int .u32 0, .int .u32 0, .int .i64 0, .int .i64 0, .int .u32 0, .int .u32 0, .int .u64 0, .int .u64 0, .int .i64 0, .int .i64 0, .int .u64 0, .int .u32 0, .int .u64 0, .int .u32 0, .int .u32 0, .int .u32 0, .int .i64 0, .int .i64 0, .int .i64 0, .int .i64 0, .int .u64 0] 34)) (w.heap.size + 1) 34 vp0.cs) := Lib.hid (by
    have h1 := Has.new (w.alloc (.cells cs 59)) 34 vp0.cs
    rw [World.size_alloc] at h1
    exact h1)
  have HL0 : Hid (Below w.heap.size w ((w.alloc (.cells cs 59)).alloc (.cells #[.int .u32 0, .int .u32 0, .int .i64 0, .int .i64 0, .int .u32 0, .int .u32 0, .int .u64 0, .int .u64 0, .int .i64 0, .int .i64 0, .int .u64 0, .int .u32 0, .int .u64 0, .int .u32 0, .int .u32 0, .int .u32 0, .int .i64 0, .int .i64 0, .int .i64 0, .int .i64 0, .int .u64 0] 34))) := Lib.hid (((Below.refl _ w).alloc (Nat.le_refl _) _).alloc (by simp) _)
  go_enter Try.func25, Try.ntmps25
  go_wp2_with fail
  refine (rnewA (.slice (some ⟨w.heap.size, 0, none⟩) 36 36) bs _ (by
    refine .inr ⟨_, 36, by rw [HLen.out], fun j u hu => ?_⟩
    have h2 : cs[j]? = some u := by rw [← HC.out, ← Array.getElem?_toList]; exact hu
    rw [Addr.add_mid, Nat.zero_add]
    exact (HB0.out.cell j).trans h2) (by rw [HLen.out]; decide) HBy.out).mono ?_
  rintro e w1 ⟨g, h, cap, rfl, hg, hh, hr, hb1⟩
  have HZ1 := Lib.hid (HZ0.out.below hb1)
  have HL1 := Lib.hid (HL0.out.trans (hb1.mono HL0.out.size))
  have HG : Hid ((w.heap.size + 1) < g ∧ (w.heap.size + 1) < h ∧ w.heap.size ≤ g) := Lib.hid (by
    have := HZ0.out.lt
    have := HL0.out.size
    exact ⟨by omega, by omega, by omega⟩)
  clear hb1 hg hh HZ0 HL0
  have HW : Hid (VRB w g h cap ⟨bs, 0, 0, 0, 0⟩ w1.heap.size (w.heap.size + 1) vp0 (w1.alloc (.cells #[.int .u32 0, .int .u32 0, .int .i64 0, .int .i64 0, .int .u32 0, .int .u32 0, .int .u64 0, .int .u64 0, .int .i64 0, .int .i64 0, .int .u64 0, .int .u32 0, .int .u64 0, .int .u32 0, .int .u32 0, .int .u32 0, .int .i64 0, .int .i64 0, .int .i64 0, .int .i64 0, .int .u64 0] 34))) := Lib.hid (VRB.mk1 (x := vp0) hr (by have := HG.out.1; omega) (by have := HG.out.2.1; omega) HZ1.out HL1.out (by omega))
  clear hr HZ1 HL1
  go_wp2_with fail
  refine (qB g h cap bs 0 8 8 _ HW.out.rd (by have := HLen.out; omega) rfl).mono ?_
  rintro e0 y0 ⟨⟨v0, rfl⟩, hr, ho⟩
  have HX := Lib.hid (HW.out.call hr ho)
  clear hr ho HW
  have HW := HX
  clear HX
  go_wp2_with fail
  refine (q1 g h cap bs 8 9 _ HW.out.rd (by have := HLen.out; omega) rfl).mono ?_
  rintro e1 y1 ⟨rfl, hr, ho⟩
  have hm := in1 (nm_bd HBy.out 8 1)
  have HX := Lib.hid (HW.out.call hr ho)
  clear hr ho HW
  have c := HX.out.box.v2
  have f := HX.out.box.free 2
  have HW := Lib.hid (HX.out.set 2 (.int .i64 (nm bs 8 1)) _ (setv_t _ _))
  go_wp2_with fail
  clear c f HX hm
  refine (q1 g h cap bs 9 10 _ HW.out.rd (by have := HLen.out; omega) rfl).mono ?_
  rintro e2 y2 ⟨rfl, hr, ho⟩
  have HX := Lib.hid (HW.out.call hr ho)
  clear hr ho HW
  have HW := HX
  clear HX
  go_wp2_with fail
  refine (q2 g h cap bs 10 12 _ HW.out.rd (by have := HLen.out; omega) rfl).mono ?_
  rintro e3 y3 ⟨rfl, hr, ho⟩
  have HX := Lib.hid (HW.out.call hr ho)
  clear hr ho HW
  have HW := HX
  clear HX
  go_wp2_with fail
  refine (q4 g h cap bs 12 16 _ HW.out.rd (by have := HLen.out; omega) rfl).mono ?_
  rintro e4 y4 ⟨rfl, hr, ho⟩
  have hm := in4 (nm_bd HBy.out 12 4)
  have HX := Lib.hid (HW.out.call hr ho)
  clear hr ho HW
  have c := HX.out.box.v0
  have f := HX.out.box.free 0
  have HW := Lib.hid (HX.out.set 0 (.int .u32 (nm bs 12 4)) _ (setv_a _ _))
  go_wp2_with fail
  clear c f HX hm
  refine (q4 g h cap bs 16 20 _ HW.out.rd (by have := HLen.out; omega) rfl).mono ?_
  rintro e5 y5 ⟨rfl, hr, ho⟩
  have hm := in4 (nm_bd HBy.out 16 4)
  have HX := Lib.hid (HW.out.call hr ho)
  clear hr ho HW
  have c := HX.out.box.v1
  have f := HX.out.box.free 1
  have HW := Lib.hid (HX.out.set 1 (.int .u32 (nm bs 16 4)) _ (setv_b _ _))
  go_wp2_with fail
  clear c f HX hm
  refine (q2 g h cap bs 20 22 _ HW.out.rd (by have := HLen.out; omega) rfl).mono ?_
  rintro e6 y6 ⟨rfl, hr, ho⟩
  have hm := in2 (nm_bd HBy.out 20 2)
  have HX := Lib.hid (HW.out.call hr ho)
  clear hr ho HW
  have c := HX.out.box.v3
  have f := HX.out.box.free 3
  have HW := Lib.hid (HX.out.set 3 (.int .i64 (nm bs 20 2)) _ (setv_n _ _))
  go_wp2_with fail
  clear c f HX hm
  refine (q6 g h cap bs 22 28 _ HW.out.rd (by have := HLen.out; omega) rfl).mono ?_
  rintro e7 y7 ⟨rfl, hr, ho⟩
  have HX := Lib.hid (HW.out.call hr ho)
  clear hr ho HW
  have HW := HX
  clear HX
  go_wp2_with fail
  refine (q1 g h cap bs 28 29 _ HW.out.rd (by have := HLen.out; omega) rfl).mono ?_
  rintro e8 y8 ⟨rfl, hr, ho⟩
  have HX := Lib.hid (HW.out.call hr ho)
  clear hr ho HW
  have HW := HX
  clear HX
  go_wp2_with fail
  refine (q3 g h cap bs 29 32 _ HW.out.rd (by have := HLen.out; omega) rfl).mono ?_
  rintro e9 y9 ⟨rfl, hr, ho⟩
  have hm := in3 (nm_bd HBy.out 29 3)
  have HX := Lib.hid (HW.out.call hr ho)
  clear hr ho HW
  have c := HX.out.box.v5
  have f := HX.out.box.free 5
  have HW := Lib.hid (HX.out.set 5 (.int .u32 (nm bs 29 3)) _ (setv_m _ _))
  go_wp2_with fail
  clear c f HX hm
  refine (q3 g h cap bs 32 35 _ HW.out.rd (by have := HLen.out; omega) rfl).mono ?_
  rintro e10 y10 ⟨rfl, hr, ho⟩
  have hm := in3 (nm_bd HBy.out 32 3)
  have HX := Lib.hid (HW.out.call hr ho)
  clear hr ho HW
  have c := HX.out.box.v4
  have f := HX.out.box.free 4
  have HW := Lib.hid (HX.out.set 4 (.int .u32 (nm bs 32 3)) _ (setv_v _ _))
  go_wp2_with (first
    | (refine wpList_load_row rfl 34 (.tmp 4) rfl w1.heap.size rfl 34 _ (0, 0) _ HW.out.box Try.underlying34 rfl (VP.fit _) ?_)
    | (refine wpList_store_row rfl 34 (.tmp 2) (.tmp 41) rfl (w.heap.size + 1) _ rfl rfl 34 vp0.cs HW.out.zer (VP.fit _) rfl (VP.one _) ?_))
  clear c f HX hm
  have HE := Lib.hid (VRB.end_ HW.out)
  exact bodyPost_ret (v := .agg (vdec bs fr0).cs) (results_cell_row rfl _ _ (w.heap.size + 1) 34 (vdec bs fr0).cs (0, 0) _ rfl (setRow_heap _ _ _ _ _ HW.out.zer) Try.underlying34 rfl (VP.fit _)) rfl ⟨rfl, below_only (Below.refl _ w) HE.out.2 HG.out.2.2 (Nat.le_refl _)⟩

theorem vdefer_no (g : Nat) (i : Int) (u : FrameMode) (w : World) (h : Has w g 37 #[.int .i64 0, .int .i64 i]) :
    CallsD Try.prog 41 #[.pointer (some ⟨g, 0, none⟩)] u w fun e u' w' => u' = u ∧ (e = .returned (.tuple #[]) ∧ w = w') := by
  have c0 := h.cell 0
  have c1 := h.cell 1
  simp only [List.getElem?_toArray, List.getElem?_cons_zero, List.getElem?_cons_succ] at c0 c1
  go_enter_d Try.func41, Try.ntmps41
  go_wp2
  go_end0
  exact ⟨rfl, rfl⟩
theorem vdefer_yes (g : Nat) (er i : Int) (he : (er != 0) = true) (hi0 : 0 ≤ i) (hi1 : i ≤ 1000000) (u : FrameMode) (w : World) (h : Has w g 37 #[.int .i64 er, .int .i64 i]) :
    CallsD Try.prog 41 #[.pointer (some ⟨g, 0, none⟩)] u w fun e u' w' => u' = u ∧ (e = .returned (.tuple #[]) ∧ w' = w.setCell ⟨g, 1, none⟩ (.int .i64 (i + 36))) := by
  have c0 := h.cell 0
  have c1 := h.cell 1
  have f1 := h.free 1
  simp only [List.getElem?_toArray, List.getElem?_cons_zero, List.getElem?_cons_succ] at c0 c1
  clear h
  go_enter_d Try.func41, Try.ntmps41
  go_wp2
  go_end0
  exact ⟨rfl, rfl⟩

end Go.Proofs.Ytgdfpmnbofnjfaa
