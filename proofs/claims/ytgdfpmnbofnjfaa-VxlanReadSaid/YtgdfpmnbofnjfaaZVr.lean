/- Packets that carry frames: the headers decoded, the frame inside read; written by gen_vxr.py. -/
import Derived.Test.YtgdfpmnbofnjfaaZVc
import Derived.Defers
namespace Go.Proofs.Ytgdfpmnbofnjfaa
open Go.RowKit Go.Shelf
set_option linter.unusedVariables false
set_option linter.unusedSimpArgs false
set_option maxRecDepth 100000

theorem q3 (g h cap : Nat) (bs : List Int) (p p' : Nat) (w : World) (H : RdS w g h cap ⟨bs, 0, p, 0, 0⟩) (hp : p + 3 ≤ bs.length) (he : p + 3 = p') :
    Calls Try.prog 49 #[.pointer (some ⟨g, 0, none⟩)] w fun e w' => e = .returned (.int .u64 (nm bs p 3)) ∧ RdS w' g h cap ⟨bs, 0, p', 0, 0⟩ ∧ Only w g w' := by
  have h := rU3 g h cap _ w H
  have ht : ((⟨bs, 0, p, 0, 0⟩ : RS).take 3).2 = ⟨bs, 0, p', 0, 0⟩ := take_at (m := 3) hp he
  rw [got_at hp, ht] at h
  exact h
theorem in3 {v : Int} (h : 0 ≤ v ∧ v < 256 ^ 3) : IntKind.u32.wrap v = v := by
  have e : IntKind.u32.wrap v = v % 4294967296 := by rfl
  rw [e]; omega
/-- A reader at work, a packet in a block of the call's own, and a block of zeros for the result. -/
structure VRB (w0 : World) (g h cap : Nat) (s : RS) (B R : Nat) (x : VP) (W : World) : Prop where
  rd : RdS W g h cap s
  box : Has W B 34 x.cs
  zer : Has W R 34 vp0.cs
  gB : g ≠ B
  hB : h ≠ B
  gR : g ≠ R
  hR : h ≠ R
  BR : B ≠ R
  on : Only w0 g W
  nw : w0.heap.size ≤ B
  nr : w0.heap.size ≤ R
section
variable {w0 W W' : World} {g h cap B R : Nat} {s s' : RS} {x : VP}
theorem VRB.call (H : VRB w0 g h cap s B R x W) (r : RdS W' g h cap s') (o : Only W g W') : VRB w0 g h cap s' B R x W' :=
  ⟨r, H.box.grown o (by rintro ⟨⟩; exact H.gB rfl), H.zer.grown o (by rintro ⟨⟩; exact H.gR rfl), H.gB, H.hB, H.gR, H.hR, H.BR, only_trans H.on o, H.nw, H.nr⟩
theorem VRB.below (H : VRB w0 g h cap s B R x W) (hb : Below W.heap.size W W') : VRB w0 g h cap s B R x W' :=
  ⟨Rd.below H.rd hb, H.box.below hb, H.zer.below hb, H.gB, H.hB, H.gR, H.hR, H.BR, only_trans H.on (only_below hb g), H.nw, H.nr⟩
theorem VRB.set (H : VRB w0 g h cap s B R x W) (i : Nat) (u : Value) (x' : VP) (he : x.cs.setIfInBounds i u = x'.cs) : VRB w0 g h cap s B R x' (W.setCell ⟨B, i, none⟩ u) :=
  ⟨Rd.grown H.rd (only_set (only_refl W B) (p := ⟨B, i, none⟩) (.inl rfl) u) (by rintro ⟨⟩; exact H.gB rfl) (by rintro ⟨⟩; exact H.hB rfl), he ▸ H.box.set_ i u, H.zer.grown (only_set (only_refl W B) (p := ⟨B, i, none⟩) (.inl rfl) u) (by rintro ⟨⟩; exact H.BR rfl), H.gB, H.hB, H.gR, H.hR, H.BR, only_set H.on (p := ⟨B, i, none⟩) (.inr H.nw) u, H.nw, H.nr⟩
theorem VRB.end_ (H : VRB w0 g h cap s B R x W) : RdS (W.setRow R x.cs) g h cap s ∧ Only w0 g (W.setRow R x.cs) := by
  have h1 : Only W R (W.setRow R x.cs) := Only.row _
  have hs := H.on.size
  exact ⟨Rd.grown H.rd h1 (by rintro ⟨⟩; exact H.gR rfl) (by rintro ⟨⟩; exact H.hR rfl), ⟨h1.os.trans H.on.os, h1.tape.trans H.on.tape, h1.output.trans H.on.output, Nat.le_trans H.on.size h1.size, fun i hi hne => (h1.block i (Nat.lt_of_lt_of_le hi hs) (by rintro ⟨⟩; have := H.nr; omega)).trans (H.on.block i hi hne)⟩⟩
end
theorem VRB.mk1 {w w1 : World} {g h cap R : Nat} {s : RS} {x : VP} (H : RdS w1 g h cap s) (hR : g ≠ R) (hR2 : h ≠ R) (hz : Has w1 R 34 vp0.cs) (hl : Below w.heap.size w w1) (hr : w.heap.size ≤ R) : VRB w g h cap s w1.heap.size R x (w1.alloc (.cells x.cs 34)) := by
  have hl2 := RdS.lts H
  have hb : Below w1.heap.size w1 (w1.alloc (.cells x.cs 34)) := (Below.refl _ w1).alloc (Nat.le_refl _) _
  have hlt := hz.lt
  exact ⟨Rd.below H hb, Has.new w1 _ _, hz.below hb, by omega, by omega, hR, hR2, by omega, only_below (hl.trans (hb.mono hl.size)) g, hl.size, hr⟩

theorem setv_a (x : VP) (v : Int) : x.cs.setIfInBounds 0 (.int .u32 v) = ({ x with a := v } : VP).cs := by simp only [VP.cs, List.setIfInBounds_toArray, List.set_cons_zero, List.set_cons_succ]
theorem setv_b (x : VP) (v : Int) : x.cs.setIfInBounds 1 (.int .u32 v) = ({ x with b := v } : VP).cs := by simp only [VP.cs, List.setIfInBounds_toArray, List.set_cons_zero, List.set_cons_succ]
theorem setv_t (x : VP) (v : Int) : x.cs.setIfInBounds 2 (.int .i64 v) = ({ x with t := v } : VP).cs := by simp only [VP.cs, List.setIfInBounds_toArray, List.set_cons_zero, List.set_cons_succ]
theorem setv_n (x : VP) (v : Int) : x.cs.setIfInBounds 3 (.int .i64 v) = ({ x with n := v } : VP).cs := by simp only [VP.cs, List.setIfInBounds_toArray, List.set_cons_zero, List.set_cons_succ]
theorem setv_v (x : VP) (v : Int) : x.cs.setIfInBounds 4 (.int .u32 v) = ({ x with v := v } : VP).cs := by simp only [VP.cs, List.setIfInBounds_toArray, List.set_cons_zero, List.set_cons_succ]
theorem setv_m (x : VP) (v : Int) : x.cs.setIfInBounds 5 (.int .u32 v) = ({ x with m := v } : VP).cs := by simp only [VP.cs, List.setIfInBounds_toArray, List.set_cons_zero, List.set_cons_succ]

set_option maxHeartbeats 4000000 in
theorem vdecode (bs : List Int) (hlen : bs.length = 36) (hby : ∀ v ∈ bs, 0 ≤ v ∧ v ≤ 255) (w : World) :
    Calls Try.prog 25 #[.agg (u8s bs).toArray] w fun e w' => e = .returned (.agg (vdec bs fr0).cs) ∧ Below w.heap.size w w' := by
  obtain ⟨cs, hcs⟩ : ∃ cs, (u8s bs).toArray = cs := ⟨_, rfl⟩
  have HC := Lib.hid hcs
  rw [hcs]
  clear hcs
  have HLen := Lib.hid hlen
  have HBy := Lib.hid hby
  clear hlen hby
  have HB0 : Hid (Has ((w.alloc (.cells cs 59)).alloc (.cells #[.int .u32 0, .int .u32 0, .int .i64 0, .int .i64 0, .int .u32 0, .int .u32 0, .int .u64 0, .int .u64 0, .int .i64 0, .int .i64 0, .int .u64 0, .int .u32 0, .int .u64 0, .int .u32 0, .int .u32 0, .int .u32 0, .int .i64 0, .int .i64 0, .int .i64 0, .int .i64 0, .int .u64 0] 34)) w.heap.size 59 cs) := Lib.hid ((Has.new w _ _).below ((Below.refl _ _).alloc (Nat.le_refl _) _))
  have HZ0 : Hid (Has ((w.alloc (.cells cs 59)).alloc (.cells #[.int .u32 0, .int .u32 0, .int .i64 0, .int .i64 0, .int .u32 0, .int .u32 0, .int .u64 0, .int .u64 0, .int .i64 0, .int .i64 0, .int .u64 0, .int .u32 0, .int .u64 0, .int .u32 0, .int .u32 0, .int .u32 0, .int .i64 0, .int .i64 0, .int .i64 0, .int .i64 0, .int .u64 0] 34)) (w.heap.size + 1) 34 vp0.cs) := Lib.hid (by
    have h1 := Has.new (w.alloc (.cells cs 59)) 34 vp0.cs
    rw [World.size_alloc] at h1
    exact h1)
  have HL0 : Hid (Below w.heap.size w ((w.alloc (.cells cs 59)).alloc (.cells #[.int .u32 0, .int .u32 0, .int .i64 0, .int .i64 0, .int .u32 0, .int .u32 0, .int .u64 0, .int .u64 0, .int .i64 0, .int .i64 0, .int .u64 0, .int .u32 0, .int .u64 0, .int .u32 0, .int .u32 0, .int .u32 0, .int .i64 0, .int .i64 0, .int .i64 0, .int .i64 0, .int .u64 0] 34))) := Lib.hid (((Below.refl _ w).alloc (Nat.le_refl _) _).alloc (by simp) _)
  go_enter Try.func25, Try.ntmps25
  go_wp2_with fail
  refine (rnewA (.slice (some ⟨w.heap.size, 0, none⟩) 36 36) bs _ (by
    refine .inr ⟨_, 36, by rw [HLen.out], fun j u hu => ?_⟩
    have h2 : cs[j]? = some u := by rw [← HC.out, ← Array.getElem?_toList]; exact hu
    rw [Addr.add_mid, Nat.zero_add]
    exact (HB0.out.cell j).trans h2) (by rw [HLen.out]; decide) HBy.out).mono ?_
  rintro e w1 ⟨g, h, cap, rfl, hg, hh, hr, hb1⟩
  have HZ1 := Lib.hid (HZ0.out.below hb1)
  have HL1 := Lib.hid (HL0.out.trans (hb1.mono HL0.out.size))
  have HG : Hid ((w.heap.size + 1) < g ∧ (w.heap.size + 1) < h ∧ w.heap.size ≤ g) := Lib.hid (by
    have := HZ0.out.lt
    have := HL0.out.size
    exact ⟨by omega, by omega, by omega⟩)
  clear hb1 hg hh HZ0 HL0
  have HW : Hid (VRB w g h cap ⟨bs, 0, 0, 0, 0⟩ w1.heap.size (w.heap.size + 1) vp0 (w1.alloc (.cells #[.int .u32 0, .int .u32 0, .int .i64 0, .int .i64 0, .int .u32 0, .int .u32 0, .int .u64 0, .int .u64 0, .int .i64 0, .int .i64 0, .int .u64 0, .int .u32 0, .int .u64 0, .int .u32 0, .int .u32 0, .int .u32 0, .int .i64 0, .int .i64 0, .int .i64 0, .int .i64 0, .int .u64 0] 34))) := Lib.hid (VRB.mk1 (x := vp0) hr (by have := HG.out.1; omega) (by have := HG.out.2.1; omega) HZ1.out HL1.out (by omega))
  clear hr HZ1 HL1
  go_wp2_with fail
  refine (qB g h cap bs 0 8 8 _ HW.out.rd (by have := HLen.out; omega) rfl).mono ?_
  rintro e0 y0 ⟨⟨v0, rfl⟩, hr, ho⟩
  have HX := Lib.hid (HW.out.call hr ho)
  clear hr ho HW
  have HW := HX
  clear HX
  go_wp2_with fail
  refine (q1 g h cap bs 8 9 _ HW.out.rd (by have := HLen.out; omega) rfl).mono ?_
  rintro e1 y1 ⟨rfl, hr, ho⟩
  have hm := in1 (nm_bd HBy.out 8 1)
  have HX := Lib.hid (HW.out.call hr ho)
  clear hr ho HW
  have c := HX.out.box.v2
  have f := HX.out.box.free 2
  have HW := Lib.hid (HX.out.set 2 (.int .i64 (nm bs 8 1)) _ (setv_t _ _))
  go_wp2_with fail
  clear c f HX hm
  refine (q1 g h cap bs 9 10 _ HW.out.rd (by have := HLen.out; omega) rfl).mono ?_
  rintro e2 y2 ⟨rfl, hr, ho⟩
  have HX := Lib.hid (HW.out.call hr ho)
  clear hr ho HW
  have HW := HX
  clear HX
  go_wp2_with fail
  refine (q2 g h cap bs 10 12 _ HW.out.rd (by have := HLen.out; omega) rfl).mono ?_
  rintro e3 y3 ⟨rfl, hr, ho⟩
  have HX := Lib.hid (HW.out.call hr ho)
  clear hr ho HW
  have HW := HX
  clear HX
  go_wp2_with fail
  refine (q4 g h cap bs 12 16 _ HW.out.rd (by have := HLen.out; omega) rfl).mono ?_
  rintro e4 y4 ⟨rfl, hr, ho⟩
  have hm := in4 (nm_bd HBy.out 12 4)
  have HX := Lib.hid (HW.out.call hr ho)
  clear hr ho HW
  have c := HX.out.box.v0
  have f := HX.out.box.free 0
  have HW := Lib.hid (HX.out.set 0 (.int .u32 (nm bs 12 4)) _ (setv_a _ _))
  go_wp2_with fail
  clear c f HX hm
  refine (q4 g h cap bs 16 20 _ HW.out.rd (by have := HLen.out; omega) rfl).mono ?_
  rintro e5 y5 ⟨rfl, hr, ho⟩
  have hm := in4 (nm_bd HBy.out 16 4)
  have HX := Lib.hid (HW.out.call hr ho)
  clear hr ho HW
  have c := HX.out.box.v1
  have f := HX.out.box.free 1
  have HW := Lib.hid (HX.out.set 1 (.int .u32 (nm bs 16 4)) _ (setv_b _ _))
  go_wp2_with fail
  clear c f HX hm
  refine (q2 g h cap bs 20 22 _ HW.out.rd (by have := HLen.out; omega) rfl).mono ?_
  rintro e6 y6 ⟨rfl, hr, ho⟩
  have hm := in2 (nm_bd HBy.out 20 2)
  have HX := Lib.hid (HW.out.call hr ho)
  clear hr ho HW
  have c := HX.out.box.v3
  have f := HX.out.box.free 3
  have HW := Lib.hid (HX.out.set 3 (.int .i64 (nm bs 20 2)) _ (setv_n _ _))
  go_wp2_with fail
  clear c f HX hm
  refine (q6 g h cap bs 22 28 _ HW.out.rd (by have := HLen.out; omega) rfl).mono ?_
  rintro e7 y7 ⟨rfl, hr, ho⟩
  have HX := Lib.hid (HW.out.call hr ho)
  clear hr ho HW
  have HW := HX
  clear HX
  go_wp2_with fail
  refine (q1 g h cap bs 28 29 _ HW.out.rd (by have := HLen.out; omega) rfl).mono ?_
  rintro e8 y8 ⟨rfl, hr, ho⟩
  have HX := Lib.hid (HW.out.call hr ho)
  clear hr ho HW
  have HW := HX
  clear HX
  go_wp2_with fail
  refine (q3 g h cap bs 29 32 _ HW.out.rd (by have := HLen.out; omega) rfl).mono ?_
  rintro e9 y9 ⟨rfl, hr, ho⟩
  have hm := in3 (nm_bd HBy.out 29 3)
  have HX := Lib.hid (HW.out.call hr ho)
  clear hr ho HW
  have c := HX.out.box.v5
  have f := HX.out.box.free 5
  have HW := Lib.hid (HX.out.set 5 (.int .u32 (nm bs 29 3)) _ (setv_m _ _))
  go_wp2_with fail
  clear c f HX hm
  refine (q3 g h cap bs 32 35 _ HW.out.rd (by have := HLen.out; omega) rfl).mono ?_
  rintro e10 y10 ⟨rfl, hr, ho⟩
  have hm := in3 (nm_bd HBy.out 32 3)
  have HX := Lib.hid (HW.out.call hr ho)
  clear hr ho HW
  have c := HX.out.box.v4
  have f := HX.out.box.free 4
  have HW := Lib.hid (HX.out.set 4 (.int .u32 (nm bs 32 3)) _ (setv_v _ _))
  go_wp2_with (first
    | (refine wpList_load_row rfl 34 (.tmp 4) rfl w1.heap.size rfl 34 _ (0, 0) _ HW.out.box Try.underlying34 rfl (VP.fit _) ?_)
    | (refine wpList_store_row rfl 34 (.tmp 2) (.tmp 41) rfl (w.heap.size + 1) _ rfl rfl 34 vp0.cs HW.out.zer (VP.fit _) rfl (VP.one _) ?_))
  clear c f HX hm
  have HE := Lib.hid (VRB.end_ HW.out)
  exact bodyPost_ret (v := .agg (vdec bs fr0).cs) (results_cell_row rfl _ _ (w.heap.size + 1) 34 (vdec bs fr0).cs (0, 0) _ rfl (setRow_heap _ _ _ _ _ HW.out.zer) Try.underlying34 rfl (VP.fit _)) rfl ⟨rfl, below_only (Below.refl _ w) HE.out.2 HG.out.2.2 (Nat.le_refl _)⟩

theorem vdefer_no (g : Nat) (i : Int) (u : FrameMode) (w : World) (h : Has w g 37 #[.int .i64 0, .int .i64 i]) :
    CallsD Try.prog 41 #[.pointer (some ⟨g, 0, none⟩)] u w fun e u' w' => u' = u ∧ (e = .returned (.tuple #[]) ∧ w = w') := by
  have c0 := h.cell 0
  have c1 := h.cell 1
  simp only [List.getElem?_toArray, List.getElem?_cons_zero, List.getElem?_cons_succ] at c0 c1
  go_enter_d Try.func41, Try.ntmps41
  go_wp2
  go_end0
  exact ⟨rfl, rfl⟩
theorem vdefer_yes (g : Nat) (er i : Int) (he : (er != 0) = true) (hi0 : 0 ≤ i) (hi1 : i ≤ 1000000) (u : FrameMode) (w : World) (h : Has w g 37 #[.int .i64 er, .int .i64 i]) :
    CallsD Try.prog 41 #[.pointer (some ⟨g, 0, none⟩)] u w fun e u' w' => u' = u ∧ (e = .returned (.tuple #[]) ∧ w' = w.setCell ⟨g, 1, none⟩ (.int .i64 (i + 36))) := by
  have c0 := h.cell 0
  have c1 := h.cell 1
  have f1 := h.free 1
  simp only [List.getElem?_toArray, List.getElem?_cons_zero, List.getElem?_cons_succ] at c0 c1
  clear h
  go_enter_d Try.func41, Try.ntmps41
  go_wp2
  go_end0
  exact ⟨rfl, rfl⟩

end Go.Proofs.Ytgdfpmnbofnjfaa

namespace Go.Proofs.Ytgdfpmnbofnjfaa
open Go.RowKit Go.Shelf
set_option linter.unusedVariables false
set_option linter.unusedSimpArgs false
set_option maxRecDepth 100000

/-- Why the head is none. -/
def vhd (bs : List Int) : Int × Int := if bs.length < 36 then (4, (bs.length : Int)) else if nm bs 9 1 ≠ 17 then (6, 9) else if nm bs 22 2 ≠ 4789 then (6, 22) else (0, 0)
theorem ft_of {w W : World} {er i : Int} (b : Nat) (h : Has W b 37 #[.int .i64 er, .int .i64 i]) (tmps : Array Value) (h2 : tmps[2]?.getD undef = .pointer (some ⟨b, 0, none⟩)) :
    (results Try.f23 tmps).run Try.prog W = .ok (.agg #[.int .i64 er, .int .i64 i]) W := by
  have hl := run_loadVar_row W b 37 37 #[.int .i64 er, .int .i64 i] (0, 0) _ h Try.underlying37 rfl ft_fit
  simp [results, Try.f23, asAddr, Result.andThen, h2, hl]

theorem head_short (v : Value) (bs : List Int) (w : World) (hA : Arr w v bs) (hl : bs.length < 36) :
    Calls Try.prog 23 #[v] w fun e w' => e = .returned (.agg #[.int .i64 (vhd bs).1, .int .i64 (vhd bs).2]) ∧ Below w.heap.size w w' := by
  obtain ⟨A, c, rfl⟩ := hA.form
  have HF : Hid (vhd bs = (4, (bs.length : Int))) := Lib.hid (by unfold vhd; rw [if_pos hl])
  rw [HF.out]
  obtain ⟨n, hn⟩ : ∃ n, bs.length = n := ⟨_, rfl⟩
  rw [hn] at hl ⊢
  have e1 : (n : Int) < 36 := by omega
  clear hn hA HF
  have HE : Hid (Has (w.alloc (.cells #[.int .i64 4, .int .i64 n] 37)) w.heap.size 37 #[.int .i64 4, .int .i64 n] ∧ Below w.heap.size w (w.alloc (.cells #[.int .i64 4, .int .i64 n] 37))) := Lib.hid ⟨Has.new _ _ _, (Below.refl _ w).alloc (Nat.le_refl _) _⟩
  go_enter Try.func23, Try.ntmps23
  go_wp2
  exact bodyPost_ret (v := .agg #[.int .i64 4, .int .i64 n]) (ft_of (w := w) w.heap.size HE.out.1 _ rfl) rfl ⟨rfl, HE.out.2⟩

set_option maxHeartbeats 1000000 in
theorem head_proto (v : Value) (bs : List Int) (w : World) (hA : Arr w v bs) (hl : 36 ≤ bs.length) (hby : ∀ v ∈ bs, 0 ≤ v ∧ v ≤ 255) (hk : nm bs 9 1 ≠ 17) :
    Calls Try.prog 23 #[v] w fun e w' => e = .returned (.agg #[.int .i64 (vhd bs).1, .int .i64 (vhd bs).2]) ∧ Below w.heap.size w w' := by
  have HF : Hid (vhd bs = (6, 9)) := Lib.hid (by unfold vhd; rw [if_neg (by omega), if_pos hk])
  rw [HF.out]
  rcases hA with ⟨_, h⟩ | ⟨ad, c, rfl, h2⟩
  · rw [h] at hl; simp at hl
  obtain ⟨b, o, rfl, hs⟩ := h2.plain (by omega)
  have h9 := hs 9 (by omega)
  have h22 := hs 22 (by omega)
  have h23 := hs 23 (by omega)
  have hlt : b < w.heap.size := cell_block (hs 0 (by omega))
  have hn9 : nm bs 9 1 = bs[9] := nm_one (by omega)
  have hn22 : nm bs 22 2 = bs[22] * 256 + bs[23] := nm_two (p := 22) (by omega)
  obtain ⟨hx0, hx1⟩ := hby bs[9] (List.getElem_mem _)
  obtain ⟨hy0, hy1⟩ := hby bs[22] (List.getElem_mem _)
  obtain ⟨hz0, hz1⟩ := hby bs[23] (List.getElem_mem _)
  obtain ⟨x, hx⟩ : ∃ x, bs[9] = x := ⟨_, rfl⟩
  obtain ⟨y, hy⟩ : ∃ y, bs[22] = y := ⟨_, rfl⟩
  obtain ⟨z, hz⟩ : ∃ z, bs[23] = z := ⟨_, rfl⟩
  rw [hx] at h9 hx0 hx1 hn9
  rw [hy] at h22 hy0 hy1 hn22
  rw [hz] at h23 hz0 hz1 hn22
  have hor := or_i64 y z hy0 hy1 hz0 hz1
  obtain ⟨n, hn⟩ : ∃ n, bs.length = n := ⟨_, rfl⟩
  have t1 : (x != 17) = true := by rw [hn9] at hk; simpa using hk
  clear hk
  rw [hn] at hl ⊢
  have e0 : ¬ ((n : Int) < 36) := by omega
  have e1 : (9 : Int) < (n : Int) := by omega
  have e2 : (22 : Int) < (n : Int) := by omega
  have e3 : (23 : Int) < (n : Int) := by omega
  clear hn hx hy hz hn9 hn22 h2 hs hby hl
  go_enter Try.func23, Try.ntmps23
  go_wp2
  exact bodyPost_ret (v := .agg #[.int .i64 6, .int .i64 9]) (ft_of (w := w) w.heap.size (Has.new w _ _) _ rfl) rfl ⟨rfl, (Below.refl _ w).alloc (Nat.le_refl _) _⟩

set_option maxHeartbeats 1000000 in
theorem head_port (v : Value) (bs : List Int) (w : World) (hA : Arr w v bs) (hl : 36 ≤ bs.length) (hby : ∀ v ∈ bs, 0 ≤ v ∧ v ≤ 255) (hk : nm bs 9 1 = 17) (hp : nm bs 22 2 ≠ 4789) :
    Calls Try.prog 23 #[v] w fun e w' => e = .returned (.agg #[.int .i64 (vhd bs).1, .int .i64 (vhd bs).2]) ∧ Below w.heap.size w w' := by
  have HF : Hid (vhd bs = (6, 22)) := Lib.hid (by unfold vhd; rw [if_neg (by omega), if_neg (by omega), if_pos hp])
  rw [HF.out]
  rcases hA with ⟨_, h⟩ | ⟨ad, c, rfl, h2⟩
  · rw [h] at hl; simp at hl
  obtain ⟨b, o, rfl, hs⟩ := h2.plain (by omega)
  have h9 := hs 9 (by omega)
  have h22 := hs 22 (by omega)
  have h23 := hs 23 (by omega)
  have hlt : b < w.heap.size := cell_block (hs 0 (by omega))
  have hn9 : nm bs 9 1 = bs[9] := nm_one (by omega)
  have hn22 : nm bs 22 2 = bs[22] * 256 + bs[23] := nm_two (p := 22) (by omega)
  obtain ⟨hx0, hx1⟩ := hby bs[9] (List.getElem_mem _)
  obtain ⟨hy0, hy1⟩ := hby bs[22] (List.getElem_mem _)
  obtain ⟨hz0, hz1⟩ := hby bs[23] (List.getElem_mem _)
  obtain ⟨x, hx⟩ : ∃ x, bs[9] = x := ⟨_, rfl⟩
  obtain ⟨y, hy⟩ : ∃ y, bs[22] = y := ⟨_, rfl⟩
  obtain ⟨z, hz⟩ : ∃ z, bs[23] = z := ⟨_, rfl⟩
  rw [hx] at h9 hx0 hx1 hn9
  rw [hy] at h22 hy0 hy1 hn22
  rw [hz] at h23 hz0 hz1 hn22
  have hor := or_i64 y z hy0 hy1 hz0 hz1
  obtain ⟨n, hn⟩ : ∃ n, bs.length = n := ⟨_, rfl⟩
  have t1 : (x != 17) = false := by rw [hn9] at hk; simpa using hk
  have t2 : (y * 256 + z != 4789) = true := by rw [hn22] at hp; simpa using hp
  clear hk hp
  rw [hn] at hl ⊢
  have e0 : ¬ ((n : Int) < 36) := by omega
  have e1 : (9 : Int) < (n : Int) := by omega
  have e2 : (22 : Int) < (n : Int) := by omega
  have e3 : (23 : Int) < (n : Int) := by omega
  clear hn hx hy hz hn9 hn22 h2 hs hby hl
  go_enter Try.func23, Try.ntmps23
  go_wp2
  go_quiet (fail)
  go_wp2
  have hA := (Below.refl w.heap.size w).alloc (Nat.le_refl _) (.cells #[.int .i64 0, .int .i64 0] 37)
  exact bodyPost_ret (v := .agg #[.int .i64 6, .int .i64 22]) (ft_of (w := w) w.heap.size (((show Has ((w.alloc (.cells #[.int .i64 0, .int .i64 0] 37)).drewN nq) w.heap.size 37 #[.int .i64 0, .int .i64 0] from Has.new w _ _).set_ 0 (.int .i64 6)).set_ 1 (.int .i64 22)) _ rfl) rfl ⟨rfl, ((hA.trans ((below_drewN _ nq).mono hA.size)).setCell (p := ⟨w.heap.size, 0, none⟩) (Nat.le_refl _) _).setCell (p := ⟨w.heap.size, 1, none⟩) (Nat.le_refl _) _⟩

set_option maxHeartbeats 1000000 in
theorem head_ok (v : Value) (bs : List Int) (w : World) (hA : Arr w v bs) (hl : 36 ≤ bs.length) (hby : ∀ v ∈ bs, 0 ≤ v ∧ v ≤ 255) (hk : nm bs 9 1 = 17) (hp : nm bs 22 2 = 4789) :
    Calls Try.prog 23 #[v] w fun e w' => e = .returned (.agg #[.int .i64 (vhd bs).1, .int .i64 (vhd bs).2]) ∧ Below w.heap.size w w' := by
  have HF : Hid (vhd bs = (0, 0)) := Lib.hid (by unfold vhd; rw [if_neg (by omega), if_neg (by omega), if_neg (by omega)])
  rw [HF.out]
  rcases hA with ⟨_, h⟩ | ⟨ad, c, rfl, h2⟩
  · rw [h] at hl; simp at hl
  obtain ⟨b, o, rfl, hs⟩ := h2.plain (by omega)
  have h9 := hs 9 (by omega)
  have h22 := hs 22 (by omega)
  have h23 := hs 23 (by omega)
  have hlt : b < w.heap.size := cell_block (hs 0 (by omega))
  have hn9 : nm bs 9 1 = bs[9] := nm_one (by omega)
  have hn22 : nm bs 22 2 = bs[22] * 256 + bs[23] := nm_two (p := 22) (by omega)
  obtain ⟨hx0, hx1⟩ := hby bs[9] (List.getElem_mem _)
  obtain ⟨hy0, hy1⟩ := hby bs[22] (List.getElem_mem _)
  obtain ⟨hz0, hz1⟩ := hby bs[23] (List.getElem_mem _)
  obtain ⟨x, hx⟩ : ∃ x, bs[9] = x := ⟨_, rfl⟩
  obtain ⟨y, hy⟩ : ∃ y, bs[22] = y := ⟨_, rfl⟩
  obtain ⟨z, hz⟩ : ∃ z, bs[23] = z := ⟨_, rfl⟩
  rw [hx] at h9 hx0 hx1 hn9
  rw [hy] at h22 hy0 hy1 hn22
  rw [hz] at h23 hz0 hz1 hn22
  have hor := or_i64 y z hy0 hy1 hz0 hz1
  obtain ⟨n, hn⟩ : ∃ n, bs.length = n := ⟨_, rfl⟩
  have t1 : (x != 17) = false := by rw [hn9] at hk; simpa using hk
  have t2 : (y * 256 + z != 4789) = false := by rw [hn22] at hp; simpa using hp
  clear hk hp
  rw [hn] at hl ⊢
  have e0 : ¬ ((n : Int) < 36) := by omega
  have e1 : (9 : Int) < (n : Int) := by omega
  have e2 : (22 : Int) < (n : Int) := by omega
  have e3 : (23 : Int) < (n : Int) := by omega
  clear hn hx hy hz hn9 hn22 h2 hs hby hl
  go_enter Try.func23, Try.ntmps23
  go_wp2
  go_quiet (fail)
  go_wp2
  have hA := (Below.refl w.heap.size w).alloc (Nat.le_refl _) (.cells #[.int .i64 0, .int .i64 0] 37)
  exact bodyPost_ret (v := .agg #[.int .i64 0, .int .i64 0]) (ft_of (w := w) w.heap.size (((show Has ((w.alloc (.cells #[.int .i64 0, .int .i64 0] 37)).drewN nq) w.heap.size 37 #[.int .i64 0, .int .i64 0] from Has.new w _ _).set_ 0 (.int .i64 0)).set_ 1 (.int .i64 0)) _ rfl) rfl ⟨rfl, ((hA.trans ((below_drewN _ nq).mono hA.size)).setCell (p := ⟨w.heap.size, 0, none⟩) (Nat.le_refl _) _).setCell (p := ⟨w.heap.size, 1, none⟩) (Nat.le_refl _) _⟩

theorem head_any (v : Value) (bs : List Int) (w : World) (hA : Arr w v bs) (hby : ∀ v ∈ bs, 0 ≤ v ∧ v ≤ 255) :
    Calls Try.prog 23 #[v] w fun e w' => e = .returned (.agg #[.int .i64 (vhd bs).1, .int .i64 (vhd bs).2]) ∧ Below w.heap.size w w' := by
  by_cases hl : bs.length < 36
  · exact head_short v bs w hA hl
  by_cases hk : nm bs 9 1 = 17
  · by_cases hp : nm bs 22 2 = 4789
    · exact head_ok v bs w hA (by omega) hby hk hp
    · exact head_port v bs w hA (by omega) hby hk hp
  · exact head_proto v bs w hA (by omega) hby hk

end Go.Proofs.Ytgdfpmnbofnjfaa

namespace Go.Proofs.Ytgdfpmnbofnjfaa
open Go.RowKit Go.Shelf
set_option linter.unusedVariables false
set_option linter.unusedSimpArgs false
set_option maxRecDepth 100000

theorem inner_results {w W : World} {x : FR} {er i : Int} (tmps : Array Value) (h2 : tmps[2]?.getD undef = .pointer (some ⟨w.heap.size, 0, none⟩)) (h3 : tmps[3]?.getD undef = .pointer (some ⟨w.heap.size + 1, 0, none⟩)) (q : RW w x er i W) :
    (results Try.f24 tmps).run Try.prog W = .ok (.tuple #[.agg x.cs, .agg #[.int .i64 er, .int .i64 i]]) W := by
  have hl := run_loadVar_row W w.heap.size 32 32 x.cs (0, 0) _ q.zer Try.underlying32 rfl x.fit
  have hl2 := run_loadVar_row W (w.heap.size + 1) 37 37 #[.int .i64 er, .int .i64 i] (0, 0) _ q.flt Try.underlying37 rfl ft_fit
  simp [results, Try.f24, asAddr, Result.andThen, h2, h3, hl, hl2]
theorem RW.at1 {w W : World} {x : FR} {er i : Int} (H : RW w x er i W) (i' : Int) : RW w x er i' (W.setCell ⟨w.heap.size + 1, 1, none⟩ (.int .i64 i')) :=
  ⟨H.zer.grown (only_set (only_refl W (w.heap.size + 1)) (p := ⟨w.heap.size + 1, 1, none⟩) (.inl rfl) _) (by intro h9; injection h9 with h9; omega),
   H.flt.set_ 1 (.int .i64 i'), H.lo.setCell (p := ⟨w.heap.size + 1, 1, none⟩) (by show w.heap.size ≤ w.heap.size + 1; omega) _⟩

/-- What the frame inside is read to. -/
def vin (bs : List Int) : FR × Int × Int := ((fread (bs.drop 36)).1, (fread (bs.drop 36)).2.1, if (fread (bs.drop 36)).2.1 = 0 then (fread (bs.drop 36)).2.2 else (fread (bs.drop 36)).2.2 + 36)
def InTo (w : World) (bs : List Int) (e : Ending) (w' : World) : Prop := e = .returned (.tuple #[.agg (vin bs).1.cs, .agg #[.int .i64 (vin bs).2.1, .int .i64 (vin bs).2.2]]) ∧ Below w.heap.size w w'

set_option maxHeartbeats 2000000 in
theorem inner_a (A : Option Addr) (c : Nat) (bs : List Int) (w : World) (hA : Arr w (.slice A bs.length c) bs) (hby : ∀ v ∈ bs, 0 ≤ v ∧ v ≤ 255) (h36 : 36 ≤ bs.length) (hm : bs.length ≤ 100000) (hcap : bs.length ≤ c) (hc : 36 < c) (h0 : (fread (bs.drop 36)).2.1 = 0) :
    Calls Try.prog 24 #[.slice A bs.length c] w (InTo w bs) := by
  obtain ⟨b, o, rfl, hs⟩ : ∃ b o, A = some ⟨b, o, none⟩ ∧ Sl w b o bs := by
    rcases hA with ⟨_, h⟩ | ⟨ad, c', h1, h2⟩
    · rw [h] at h36; simp at h36
    · injection h1 with h1 _ _
      subst h1
      obtain ⟨b, o, rfl, hs⟩ := h2.plain (by omega)
      exact ⟨b, o, rfl, hs⟩
  have harr : Arr w (.slice (some ⟨b, o + 36, none⟩) (bs.length - 36) (c - 36)) (bs.drop 36) := .inr ⟨_, c - 36, by rw [List.length_drop], Sl.at_ (fun j hj => by
    rw [List.length_drop] at hj
    have h := hs (36 + j) (by omega)
    rw [← Nat.add_assoc] at h
    rw [h]
    simp)⟩
  have hby2 : ∀ v ∈ bs.drop 36, 0 ≤ v ∧ v ≤ 255 := fun v hv => hby v (List.mem_of_mem_drop hv)
  obtain ⟨f, hf⟩ : ∃ f, (fread (bs.drop 36)).1 = f := ⟨_, rfl⟩
  obtain ⟨er, her⟩ : ∃ er, (fread (bs.drop 36)).2.1 = er := ⟨_, rfl⟩
  obtain ⟨i, hi⟩ : ∃ i, (fread (bs.drop 36)).2.2 = i := ⟨_, rfl⟩
  have HF : Hid (vin bs = (f, 0, i)) := Lib.hid (by unfold vin; rw [hf, hi, if_pos h0, h0])
  have HRd : Hid (∀ W, Below w.heap.size w W → Calls Try.prog 42 #[.slice (some ⟨b, o + 36, none⟩) (bs.length - 36) (c - 36)] W fun e w' => e = .returned (.tuple #[.agg f.cs, .agg #[.int .i64 er, .int .i64 i]]) ∧ Below W.heap.size W w') := Lib.hid (fun W hb => by
    have h := read_any _ (bs.drop 36) W (harr.below hb) hby2
    unfold ReadsTo at h
    rw [hf, her, hi] at h
    exact h)
  rw [her] at h0
  subst h0
  have hmf : ∀ (fn : Fn) (first cap : Array Value) (w : World), (Instr.makeFunc fn first cap).run Try.prog w = .ok (.func fn first cap) w := fun _ _ _ _ => rfl
  obtain ⟨n, hn⟩ : ∃ n, bs.length = n := ⟨_, rfl⟩
  rw [hn] at h36 hcap HRd ⊢
  have e1 : (36 : Int) ≤ (n : Int) := by omega
  have e2 : (36 : Int) < (c : Int) := by omega
  have e3 : 36 < c := by omega
  clear hn hA harr hs hby hby2 hf hm
  obtain ⟨W2, hW2⟩ : ∃ W2, ((w.alloc (.cells #[.int .u64 0, .int .u64 0, .int .i64 0, .int .i64 0, .int .u64 0, .int .u32 0, .int .u64 0, .int .u32 0, .int .u32 0, .int .u32 0, .int .i64 0, .int .i64 0, .int .i64 0, .int .i64 0, .int .u64 0] 32)).alloc (.cells #[.int .i64 0, .int .i64 0] 37)) = W2 := ⟨_, rfl⟩
  have HW : Hid (RW w fr0 0 0 W2) := Lib.hid (hW2 ▸ RW.start w)
  go_enter_defers Try.func24, Try.ntmps24
  go_wp2_with fail
  try rw [hW2]
  clear hW2
  refine (HRd.out _ HW.out.lo).mono ?_
  rintro e w3 ⟨rfl, hb⟩
  have HV := Lib.hid (HW.out.below hb)
  clear hb HW
  have q0 := HV.out.flt.cell 0
  have q1 := HV.out.flt.cell 1
  have p0 := HV.out.flt.free 0
  have p1 := HV.out.flt.free 1
  simp only [List.getElem?_toArray, List.getElem?_cons_zero, List.getElem?_cons_succ] at q0 q1
  go_wp2_with (first | (refine wpList_store_row rfl 32 (.tmp 2) (.tmp 8) rfl w.heap.size f.cs rfl rfl 32 fr0.cs HV.out.zer (FR.fit f) rfl (FR.one f) ?_; have HX := Lib.hid (HV.out.row f); generalize w3.setRow w.heap.size f.cs = W5 at HX ⊢; clear q0 q1 p0 p1; have q0 := HX.out.flt.cell 0; have q1 := HX.out.flt.cell 1; have p0 := HX.out.flt.free 0; have p1 := HX.out.flt.free 1; simp only [List.getElem?_toArray, List.getElem?_cons_zero, List.getElem?_cons_succ] at q0 q1))
  have HE := Lib.hid (HX.out.set 0 i)
  refine leaves_cons (f := 41) (args := #[.pointer (some ⟨w.heap.size + 1, 0, none⟩)]) (by simp) (by simp [go_sem]) ?_
  refine (vdefer_no (w.heap.size + 1) i .returning _ HE.out.flt).mono ?_
  rintro e u' w4 ⟨rfl, rfl, rfl⟩
  exact ⟨_, inner_results _ rfl rfl HE.out, by rw [HF.out], HE.out.lo⟩

set_option maxHeartbeats 2000000 in
theorem inner_b (A : Option Addr) (c : Nat) (bs : List Int) (w : World) (hA : Arr w (.slice A bs.length c) bs) (hby : ∀ v ∈ bs, 0 ≤ v ∧ v ≤ 255) (h36 : 36 ≤ bs.length) (hm : bs.length ≤ 100000) (hcap : bs.length ≤ c) (hc : 36 < c) (h0 : (fread (bs.drop 36)).2.1 ≠ 0) :
    Calls Try.prog 24 #[.slice A bs.length c] w (InTo w bs) := by
  obtain ⟨b, o, rfl, hs⟩ : ∃ b o, A = some ⟨b, o, none⟩ ∧ Sl w b o bs := by
    rcases hA with ⟨_, h⟩ | ⟨ad, c', h1, h2⟩
    · rw [h] at h36; simp at h36
    · injection h1 with h1 _ _
      subst h1
      obtain ⟨b, o, rfl, hs⟩ := h2.plain (by omega)
      exact ⟨b, o, rfl, hs⟩
  have harr : Arr w (.slice (some ⟨b, o + 36, none⟩) (bs.length - 36) (c - 36)) (bs.drop 36) := .inr ⟨_, c - 36, by rw [List.length_drop], Sl.at_ (fun j hj => by
    rw [List.length_drop] at hj
    have h := hs (36 + j) (by omega)
    rw [← Nat.add_assoc] at h
    rw [h]
    simp)⟩
  have hby2 : ∀ v ∈ bs.drop 36, 0 ≤ v ∧ v ≤ 255 := fun v hv => hby v (List.mem_of_mem_drop hv)
  obtain ⟨f, hf⟩ : ∃ f, (fread (bs.drop 36)).1 = f := ⟨_, rfl⟩
  obtain ⟨er, her⟩ : ∃ er, (fread (bs.drop 36)).2.1 = er := ⟨_, rfl⟩
  obtain ⟨i, hi⟩ : ∃ i, (fread (bs.drop 36)).2.2 = i := ⟨_, rfl⟩
  have HF : Hid (vin bs = (f, er, i + 36)) := Lib.hid (by unfold vin; rw [hf, hi, if_neg h0, her])
  obtain ⟨_, hi0, hi1⟩ := fread_bad h0
  rw [hi] at hi0 hi1
  have hdl : (bs.drop 36).length = bs.length - 36 := List.length_drop
  have hi2 : i ≤ 1000000 := by omega
  have HRd : Hid (∀ W, Below w.heap.size w W → Calls Try.prog 42 #[.slice (some ⟨b, o + 36, none⟩) (bs.length - 36) (c - 36)] W fun e w' => e = .returned (.tuple #[.agg f.cs, .agg #[.int .i64 er, .int .i64 i]]) ∧ Below W.heap.size W w') := Lib.hid (fun W hb => by
    have h := read_any _ (bs.drop 36) W (harr.below hb) hby2
    unfold ReadsTo at h
    rw [hf, her, hi] at h
    exact h)
  rw [her] at h0
  have hne : (er != 0) = true := by simpa using h0
  have hmf : ∀ (fn : Fn) (first cap : Array Value) (w : World), (Instr.makeFunc fn first cap).run Try.prog w = .ok (.func fn first cap) w := fun _ _ _ _ => rfl
  obtain ⟨n, hn⟩ : ∃ n, bs.length = n := ⟨_, rfl⟩
  rw [hn] at h36 hcap HRd ⊢
  have e1 : (36 : Int) ≤ (n : Int) := by omega
  have e2 : (36 : Int) < (c : Int) := by omega
  have e3 : 36 < c := by omega
  clear hn hA harr hs hby hby2 hf hm
  obtain ⟨W2, hW2⟩ : ∃ W2, ((w.alloc (.cells #[.int .u64 0, .int .u64 0, .int .i64 0, .int .i64 0, .int .u64 0, .int .u32 0, .int .u64 0, .int .u32 0, .int .u32 0, .int .u32 0, .int .i64 0, .int .i64 0, .int .i64 0, .int .i64 0, .int .u64 0] 32)).alloc (.cells #[.int .i64 0, .int .i64 0] 37)) = W2 := ⟨_, rfl⟩
  have HW : Hid (RW w fr0 0 0 W2) := Lib.hid (hW2 ▸ RW.start w)
  go_enter_defers Try.func24, Try.ntmps24
  go_wp2_with fail
  try rw [hW2]
  clear hW2
  refine (HRd.out _ HW.out.lo).mono ?_
  rintro e w3 ⟨rfl, hb⟩
  have HV := Lib.hid (HW.out.below hb)
  clear hb HW
  have q0 := HV.out.flt.cell 0
  have q1 := HV.out.flt.cell 1
  have p0 := HV.out.flt.free 0
  have p1 := HV.out.flt.free 1
  simp only [List.getElem?_toArray, List.getElem?_cons_zero, List.getElem?_cons_succ] at q0 q1
  go_wp2_with (first | (refine wpList_store_row rfl 32 (.tmp 2) (.tmp 8) rfl w.heap.size f.cs rfl rfl 32 fr0.cs HV.out.zer (FR.fit f) rfl (FR.one f) ?_; have HX := Lib.hid (HV.out.row f); generalize w3.setRow w.heap.size f.cs = W5 at HX ⊢; clear q0 q1 p0 p1; have q0 := HX.out.flt.cell 0; have q1 := HX.out.flt.cell 1; have p0 := HX.out.flt.free 0; have p1 := HX.out.flt.free 1; simp only [List.getElem?_toArray, List.getElem?_cons_zero, List.getElem?_cons_succ] at q0 q1))
  have HE := Lib.hid (HX.out.set er i)
  refine leaves_cons (f := 41) (args := #[.pointer (some ⟨w.heap.size + 1, 0, none⟩)]) (by simp) (by simp [go_sem]) ?_
  refine (vdefer_yes (w.heap.size + 1) er i hne hi0 hi2 .returning _ HE.out.flt).mono ?_
  rintro e u' w4 ⟨rfl, rfl, rfl⟩
  have HE2 := Lib.hid (HE.out.at1 (i + 36))
  exact ⟨_, inner_results _ rfl rfl HE2.out, by rw [HF.out], HE2.out.lo⟩

set_option maxHeartbeats 2000000 in
theorem inner_c (A : Option Addr) (c : Nat) (bs : List Int) (w : World) (hA : Arr w (.slice A bs.length c) bs) (hby : ∀ v ∈ bs, 0 ≤ v ∧ v ≤ 255) (h36 : 36 ≤ bs.length) (hm : bs.length ≤ 100000) (hcap : bs.length ≤ c) (hc : c = 36) (h0 : (fread (bs.drop 36)).2.1 ≠ 0) :
    Calls Try.prog 24 #[.slice A bs.length c] w (InTo w bs) := by
  have hn : bs.length = 36 := by omega
  have hd : bs.drop 36 = [] := List.drop_eq_nil_of_le (by omega)
  obtain ⟨b, o, rfl, hs⟩ : ∃ b o, A = some ⟨b, o, none⟩ ∧ Sl w b o bs := by
    rcases hA with ⟨_, h⟩ | ⟨ad, c', h1, h2⟩
    · rw [h] at h36; simp at h36
    · injection h1 with h1 _ _
      subst h1
      obtain ⟨b, o, rfl, hs⟩ := h2.plain (by omega)
      exact ⟨b, o, rfl, hs⟩
  have harr : Arr w (.slice (some ⟨b, o, none⟩) 0 0) (bs.drop 36) := .inr ⟨_, 0, by rw [hd]; rfl, fun j u hu => by rw [hd] at hu; simp at hu⟩
  subst hc
  have hby2 : ∀ v ∈ bs.drop 36, 0 ≤ v ∧ v ≤ 255 := fun v hv => hby v (List.mem_of_mem_drop hv)
  obtain ⟨f, hf⟩ : ∃ f, (fread (bs.drop 36)).1 = f := ⟨_, rfl⟩
  obtain ⟨er, her⟩ : ∃ er, (fread (bs.drop 36)).2.1 = er := ⟨_, rfl⟩
  obtain ⟨i, hi⟩ : ∃ i, (fread (bs.drop 36)).2.2 = i := ⟨_, rfl⟩
  have HF : Hid (vin bs = (f, er, i + 36)) := Lib.hid (by unfold vin; rw [hf, hi, if_neg h0, her])
  obtain ⟨_, hi0, hi1⟩ := fread_bad h0
  rw [hi] at hi0 hi1
  have hdl : (bs.drop 36).length = bs.length - 36 := List.length_drop
  have hi2 : i ≤ 1000000 := by omega
  have HRd : Hid (∀ W, Below w.heap.size w W → Calls Try.prog 42 #[.slice (some ⟨b, o, none⟩) 0 0] W fun e w' => e = .returned (.tuple #[.agg f.cs, .agg #[.int .i64 er, .int .i64 i]]) ∧ Below W.heap.size W w') := Lib.hid (fun W hb => by
    have h := read_any _ (bs.drop 36) W (harr.below hb) hby2
    unfold ReadsTo at h
    rw [hf, her, hi] at h
    exact h)
  rw [her] at h0
  have hne : (er != 0) = true := by simpa using h0
  have hmf : ∀ (fn : Fn) (first cap : Array Value) (w : World), (Instr.makeFunc fn first cap).run Try.prog w = .ok (.func fn first cap) w := fun _ _ _ _ => rfl
  rw [hn]
  clear hn hA harr hs hby hby2 hf hm h36 hcap hd
  obtain ⟨W2, hW2⟩ : ∃ W2, ((w.alloc (.cells #[.int .u64 0, .int .u64 0, .int .i64 0, .int .i64 0, .int .u64 0, .int .u32 0, .int .u64 0, .int .u32 0, .int .u32 0, .int .u32 0, .int .i64 0, .int .i64 0, .int .i64 0, .int .i64 0, .int .u64 0] 32)).alloc (.cells #[.int .i64 0, .int .i64 0] 37)) = W2 := ⟨_, rfl⟩
  have HW : Hid (RW w fr0 0 0 W2) := Lib.hid (hW2 ▸ RW.start w)
  go_enter_defers Try.func24, Try.ntmps24
  go_wp2_with fail
  try rw [hW2]
  clear hW2
  refine (HRd.out _ HW.out.lo).mono ?_
  rintro e w3 ⟨rfl, hb⟩
  have HV := Lib.hid (HW.out.below hb)
  clear hb HW
  have q0 := HV.out.flt.cell 0
  have q1 := HV.out.flt.cell 1
  have p0 := HV.out.flt.free 0
  have p1 := HV.out.flt.free 1
  simp only [List.getElem?_toArray, List.getElem?_cons_zero, List.getElem?_cons_succ] at q0 q1
  go_wp2_with (first | (refine wpList_store_row rfl 32 (.tmp 2) (.tmp 8) rfl w.heap.size f.cs rfl rfl 32 fr0.cs HV.out.zer (FR.fit f) rfl (FR.one f) ?_; have HX := Lib.hid (HV.out.row f); generalize w3.setRow w.heap.size f.cs = W5 at HX ⊢; clear q0 q1 p0 p1; have q0 := HX.out.flt.cell 0; have q1 := HX.out.flt.cell 1; have p0 := HX.out.flt.free 0; have p1 := HX.out.flt.free 1; simp only [List.getElem?_toArray, List.getElem?_cons_zero, List.getElem?_cons_succ] at q0 q1))
  have HE := Lib.hid (HX.out.set er i)
  refine leaves_cons (f := 41) (args := #[.pointer (some ⟨w.heap.size + 1, 0, none⟩)]) (by simp) (by simp [go_sem]) ?_
  refine (vdefer_yes (w.heap.size + 1) er i hne hi0 hi2 .returning _ HE.out.flt).mono ?_
  rintro e u' w4 ⟨rfl, rfl, rfl⟩
  have HE2 := Lib.hid (HE.out.at1 (i + 36))
  exact ⟨_, inner_results _ rfl rfl HE2.out, by rw [HF.out], HE2.out.lo⟩

theorem inner_any (A : Option Addr) (c : Nat) (bs : List Int) (w : World) (hA : Arr w (.slice A bs.length c) bs) (hby : ∀ v ∈ bs, 0 ≤ v ∧ v ≤ 255) (h36 : 36 ≤ bs.length) (hm : bs.length ≤ 100000) (hcap : bs.length ≤ c) :
    Calls Try.prog 24 #[.slice A bs.length c] w (InTo w bs) := by
  by_cases hc : 36 < c
  · by_cases h0 : (fread (bs.drop 36)).2.1 = 0
    · exact inner_a A c bs w hA hby h36 hm hcap hc h0
    · exact inner_b A c bs w hA hby h36 hm hcap hc h0
  · refine inner_c A c bs w hA hby h36 hm hcap (by omega) ?_
    rw [List.drop_eq_nil_of_le (by omega)]
    decide

end Go.Proofs.Ytgdfpmnbofnjfaa
