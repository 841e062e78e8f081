/- Packets: the decoders of the kinds; written by gen_pkr.py. -/
import Derived.Test.YtgdfpmnbofnjfaaPkR
namespace Go.Proofs.Ytgdfpmnbofnjfaa
open Go.RowKit Go.Shelf
set_option linter.unusedVariables false
set_option linter.unusedSimpArgs false
set_option maxRecDepth 100000

def dAF (bs : List Int) : FR := ⟨(nm bs 6 6), (nm bs 0 6), (1), (nm bs 20 2), (nm bs 22 6), (nm bs 28 4), (nm bs 32 6), (nm bs 38 4), 0, 0, 0, 0, 0, 0, (nm bs 42 8)⟩
set_option maxHeartbeats 2000000 in
theorem dA_any (bs : List Int) (hlen : bs.length = 50) (hby : ∀ v ∈ bs, 0 ≤ v ∧ v ≤ 255) (w : World) :
    Calls Try.prog 80 #[.agg (u8s bs).toArray] w fun e w' => e = .returned (.agg (dAF bs).cs) ∧ Below w.heap.size w w' := by
  obtain ⟨cs, hcs⟩ : ∃ cs, (u8s bs).toArray = cs := ⟨_, rfl⟩
  have HC := Lib.hid hcs
  rw [hcs]
  clear hcs
  have HLen := Lib.hid hlen
  have HBy := Lib.hid hby
  clear hlen hby
  have HB0 : Hid (Has ((w.alloc (.cells cs 115)).alloc (.cells #[.int .u64 0, .int .u64 0, .int .i64 0, .int .i64 0, .int .u64 0, .int .u32 0, .int .u64 0, .int .u32 0, .int .u32 0, .int .u32 0, .int .i64 0, .int .i64 0, .int .i64 0, .int .i64 0, .int .u64 0] 32)) w.heap.size 115 cs) := Lib.hid ((Has.new w _ _).below ((Below.refl _ _).alloc (Nat.le_refl _) _))
  have HZ0 : Hid (Has ((w.alloc (.cells cs 115)).alloc (.cells #[.int .u64 0, .int .u64 0, .int .i64 0, .int .i64 0, .int .u64 0, .int .u32 0, .int .u64 0, .int .u32 0, .int .u32 0, .int .u32 0, .int .i64 0, .int .i64 0, .int .i64 0, .int .i64 0, .int .u64 0] 32)) (w.heap.size + 1) 32 fr0.cs) := Lib.hid (by
    have h1 := Has.new (w.alloc (.cells cs 115)) 32 fr0.cs
    rw [World.size_alloc] at h1
    exact h1)
  have HL0 : Hid (Below w.heap.size w ((w.alloc (.cells cs 115)).alloc (.cells #[.int .u64 0, .int .u64 0, .int .i64 0, .int .i64 0, .int .u64 0, .int .u32 0, .int .u64 0, .int .u32 0, .int .u32 0, .int .u32 0, .int .i64 0, .int .i64 0, .int .i64 0, .int .i64 0, .int .u64 0] 32))) := Lib.hid (((Below.refl _ w).alloc (Nat.le_refl _) _).alloc (by simp) _)
  go_enter Try.func80, Try.ntmps80
  go_wp2_with fail
  refine (rnewA (.slice (some ⟨w.heap.size, 0, none⟩) 50 50) bs _ (by
    refine .inr ⟨_, 50, by rw [HLen.out], fun j u hu => ?_⟩
    have h2 : cs[j]? = some u := by rw [← HC.out, ← Array.getElem?_toList]; exact hu
    rw [Addr.add_mid, Nat.zero_add]
    exact (HB0.out.cell j).trans h2) (by rw [HLen.out]; decide) HBy.out).mono ?_
  rintro e w1 ⟨g, h, cap, rfl, hg, hh, hr, hb1⟩
  have HZ1 := Lib.hid (HZ0.out.below hb1)
  have HL1 := Lib.hid (HL0.out.trans (hb1.mono HL0.out.size))
  have HG : Hid ((w.heap.size + 1) < g ∧ (w.heap.size + 1) < h ∧ w.heap.size ≤ g) := Lib.hid (by
    have := HZ0.out.lt
    have := HL0.out.size
    exact ⟨by omega, by omega, by omega⟩)
  clear hb1 hg hh HZ0 HL0
  have HR := Lib.hid hr
  clear hr
  go_wp2_with fail
  refine (start_any g h cap bs (by have := HLen.out; omega) HBy.out 1 _ HR.out).mono ?_
  rintro e W3 ⟨rfl, hr3, ho3⟩
  rw [show (startF bs 1).cs = #[.int .u64 (nm bs 6 6), .int .u64 (nm bs 0 6), .int .i64 1, .int .i64 0, .int .u64 0, .int .u32 0, .int .u64 0, .int .u32 0, .int .u32 0, .int .u32 0, .int .i64 0, .int .i64 0, .int .i64 0, .int .i64 0, .int .u64 0] from rfl]
  have HZ3 := Lib.hid (HZ1.out.grown ho3 (by rintro ⟨⟩; exact Nat.lt_irrefl _ HG.out.1))
  have HL3 := Lib.hid (below_only HL1.out ho3 HG.out.2.2 HL1.out.size)
  have HW : Hid (RB w g h cap ⟨bs, 0, 14, 0, 0⟩ W3.heap.size (w.heap.size + 1) ⟨nm bs 6 6, nm bs 0 6, 1, 0, 0, 0, 0, 0, 0, 0, 0, 0, 0, 0, 0⟩ (W3.alloc (.cells #[.int .u64 (nm bs 6 6), .int .u64 (nm bs 0 6), .int .i64 1, .int .i64 0, .int .u64 0, .int .u32 0, .int .u64 0, .int .u32 0, .int .u32 0, .int .u32 0, .int .i64 0, .int .i64 0, .int .i64 0, .int .i64 0, .int .u64 0] 32))) := Lib.hid (RB.mk1 (x := startF bs 1) hr3 (by have := HG.out.1; omega) (by have := HG.out.2.1; omega) HZ3.out HL3.out (by omega))
  clear hr3 ho3 HZ3 HL3 HZ1 HL1 HR
  go_wp2_with fail
  refine (qB g h cap bs 14 6 20 _ HW.out.rd (by have := HLen.out; omega) rfl).mono ?_
  rintro e1 w1 ⟨⟨v1, rfl⟩, hr, ho⟩
  have HX := Lib.hid (HW.out.call hr ho)
  clear hr ho HW
  have HW := HX
  clear HX
  go_wp2_with fail
  refine (q2 g h cap bs 20 22 _ HW.out.rd (by have := HLen.out; omega) rfl).mono ?_
  rintro e2 w2 ⟨rfl, hr, ho⟩
  have hm := in2 (nm_bd HBy.out 20 2)
  have HX := Lib.hid (HW.out.call hr ho)
  clear hr ho HW
  have c := HX.out.box.f3
  have f := HX.out.box.free 3
  have HW := Lib.hid (HX.out.set 3 (.int .i64 (nm bs 20 2)) _ (set_op _ _))
  go_wp2_with fail
  clear c f HX hm
  refine (q6 g h cap bs 22 28 _ HW.out.rd (by have := HLen.out; omega) rfl).mono ?_
  rintro e3 w3 ⟨rfl, hr, ho⟩
  have HX := Lib.hid (HW.out.call hr ho)
  clear hr ho HW
  have c := HX.out.box.f4
  have f := HX.out.box.free 4
  have HW := Lib.hid (HX.out.set 4 (.int .u64 (nm bs 22 6)) _ (set_sm _ _))
  go_wp2_with fail
  clear c f HX
  refine (q4 g h cap bs 28 32 _ HW.out.rd (by have := HLen.out; omega) rfl).mono ?_
  rintro e4 w4 ⟨rfl, hr, ho⟩
  have hm := in4 (nm_bd HBy.out 28 4)
  have HX := Lib.hid (HW.out.call hr ho)
  clear hr ho HW
  have c := HX.out.box.f5
  have f := HX.out.box.free 5
  have HW := Lib.hid (HX.out.set 5 (.int .u32 (nm bs 28 4)) _ (set_si _ _))
  go_wp2_with fail
  clear c f HX hm
  refine (q6 g h cap bs 32 38 _ HW.out.rd (by have := HLen.out; omega) rfl).mono ?_
  rintro e5 w5 ⟨rfl, hr, ho⟩
  have HX := Lib.hid (HW.out.call hr ho)
  clear hr ho HW
  have c := HX.out.box.f6
  have f := HX.out.box.free 6
  have HW := Lib.hid (HX.out.set 6 (.int .u64 (nm bs 32 6)) _ (set_tm _ _))
  go_wp2_with fail
  clear c f HX
  refine (q4 g h cap bs 38 42 _ HW.out.rd (by have := HLen.out; omega) rfl).mono ?_
  rintro e6 w6 ⟨rfl, hr, ho⟩
  have hm := in4 (nm_bd HBy.out 38 4)
  have HX := Lib.hid (HW.out.call hr ho)
  clear hr ho HW
  have c := HX.out.box.f7
  have f := HX.out.box.free 7
  have HW := Lib.hid (HX.out.set 7 (.int .u32 (nm bs 38 4)) _ (set_ti _ _))
  go_wp2_with fail
  clear c f HX hm
  refine (q8 g h cap bs 42 50 _ HW.out.rd (by have := HLen.out; omega) rfl).mono ?_
  rintro e7 w7 ⟨rfl, hr, ho⟩
  have HX := Lib.hid (HW.out.call hr ho)
  clear hr ho HW
  have c := HX.out.box.f14
  have f := HX.out.box.free 14
  have HW := Lib.hid (HX.out.set 14 (.int .u64 (nm bs 42 8)) _ (set_da _ _))
  go_wp2_with (first
    | (refine wpList_load_row rfl 32 (.tmp 4) rfl W3.heap.size rfl 32 _ (0, 0) _ HW.out.box Try.underlying32 rfl (FR.fit _) ?_)
    | (refine wpList_store_row rfl 32 (.tmp 2) (.tmp 37) rfl (w.heap.size + 1) _ rfl rfl 32 fr0.cs HW.out.zer (FR.fit _) rfl (FR.one _) ?_))
  clear c f HX
  have HE := Lib.hid (RB.end_ HW.out)
  exact bodyPost_ret (v := .agg (dAF bs).cs) (results_cell_row rfl _ _ (w.heap.size + 1) 32 (dAF bs).cs (0, 0) _ rfl (setRow_heap _ _ _ _ _ HW.out.zer) Try.underlying32 rfl (FR.fit _)) rfl ⟨rfl, below_only (Below.refl _ w) HE.out.2 HG.out.2.2 (Nat.le_refl _)⟩

def dHtF (bs : List Int) : FR := ⟨(nm bs 6 6), (nm bs 0 6), (2), 0, 0, 0, 0, 0, (nm bs 26 4), (nm bs 30 4), (nm bs 22 1), (nm bs 23 1), (nm bs 34 2), (nm bs 36 2), (nm bs 42 8)⟩
set_option maxHeartbeats 2000000 in
theorem dHt_any (v : Value) (bs : List Int) (w : World) (hA : Arr w v bs) (hlen : bs.length = 50) (hby : ∀ v ∈ bs, 0 ≤ v ∧ v ≤ 255) (hp : pd (nm bs 23 1) = true) :
    Calls Try.prog 81 #[v] w fun e w' => e = .returned (.agg (dHtF bs).cs) ∧ Below w.heap.size w w' := by
  have HLen := Lib.hid hlen
  have HBy := Lib.hid hby
  clear hlen hby
  have HZ0 : Hid (Has (w.alloc (.cells #[.int .u64 0, .int .u64 0, .int .i64 0, .int .i64 0, .int .u64 0, .int .u32 0, .int .u64 0, .int .u32 0, .int .u32 0, .int .u32 0, .int .i64 0, .int .i64 0, .int .i64 0, .int .i64 0, .int .u64 0] 32)) w.heap.size 32 fr0.cs) := Lib.hid (Has.new w _ _)
  have HL0 : Hid (Below w.heap.size w (w.alloc (.cells #[.int .u64 0, .int .u64 0, .int .i64 0, .int .i64 0, .int .u64 0, .int .u32 0, .int .u64 0, .int .u32 0, .int .u32 0, .int .u32 0, .int .i64 0, .int .i64 0, .int .i64 0, .int .i64 0, .int .u64 0] 32))) := Lib.hid ((Below.refl _ w).alloc (Nat.le_refl _) _)
  obtain ⟨A, c, rfl⟩ := hA.form
  have HA := Lib.hid hA
  have HP := Lib.hid hp
  clear hA hp
  obtain ⟨ln, hln⟩ : ∃ ln, bs.length = ln := ⟨_, rfl⟩
  have HLn := Lib.hid hln
  rw [hln] at HA
  rw [hln]
  clear hln
  go_enter Try.func81, Try.ntmps81
  go_wp2_with fail
  refine (rnewA _ bs _ (HLn.out ▸ HA.out.below HL0.out) (by have := HLen.out; omega) HBy.out).mono ?_
  rintro e w1 ⟨g, h, cap, rfl, hg, hh, hr, hb1⟩
  have HZ1 := Lib.hid (HZ0.out.below hb1)
  have HL1 := Lib.hid (HL0.out.trans (hb1.mono HL0.out.size))
  have HG : Hid (w.heap.size < g ∧ w.heap.size < h ∧ w.heap.size ≤ g) := Lib.hid (by
    have := HZ0.out.lt
    have := HL0.out.size
    exact ⟨by omega, by omega, by omega⟩)
  clear hb1 hg hh HZ0 HL0
  have HR := Lib.hid hr
  clear hr
  go_wp2_with fail
  refine (start_any g h cap bs (by have := HLen.out; omega) HBy.out 2 _ HR.out).mono ?_
  rintro e W3 ⟨rfl, hr3, ho3⟩
  rw [show (startF bs 2).cs = #[.int .u64 (nm bs 6 6), .int .u64 (nm bs 0 6), .int .i64 2, .int .i64 0, .int .u64 0, .int .u32 0, .int .u64 0, .int .u32 0, .int .u32 0, .int .u32 0, .int .i64 0, .int .i64 0, .int .i64 0, .int .i64 0, .int .u64 0] from rfl]
  have HZ3 := Lib.hid (HZ1.out.grown ho3 (by rintro ⟨⟩; exact Nat.lt_irrefl _ HG.out.1))
  have HL3 := Lib.hid (below_only HL1.out ho3 HG.out.2.2 HL1.out.size)
  have HW : Hid (RB w g h cap ⟨bs, 0, 14, 0, 0⟩ W3.heap.size w.heap.size ⟨nm bs 6 6, nm bs 0 6, 2, 0, 0, 0, 0, 0, 0, 0, 0, 0, 0, 0, 0⟩ (W3.alloc (.cells #[.int .u64 (nm bs 6 6), .int .u64 (nm bs 0 6), .int .i64 2, .int .i64 0, .int .u64 0, .int .u32 0, .int .u64 0, .int .u32 0, .int .u32 0, .int .u32 0, .int .i64 0, .int .i64 0, .int .i64 0, .int .i64 0, .int .u64 0] 32))) := Lib.hid (RB.mk1 (x := startF bs 2) hr3 (by have := HG.out.1; omega) (by have := HG.out.2.1; omega) HZ3.out HL3.out (by omega))
  clear hr3 ho3 HZ3 HL3 HZ1 HL1 HR
  go_wp2_with fail
  refine (qB g h cap bs 14 8 22 _ HW.out.rd (by have := HLen.out; omega) rfl).mono ?_
  rintro e1 w1 ⟨⟨v1, rfl⟩, hr, ho⟩
  have HX := Lib.hid (HW.out.call hr ho)
  clear hr ho HW
  have HW := HX
  clear HX
  go_wp2_with fail
  refine (q1 g h cap bs 22 23 _ HW.out.rd (by have := HLen.out; omega) rfl).mono ?_
  rintro e2 w2 ⟨rfl, hr, ho⟩
  have hm := in1 (nm_bd HBy.out 22 1)
  have HX := Lib.hid (HW.out.call hr ho)
  clear hr ho HW
  have c := HX.out.box.f10
  have f := HX.out.box.free 10
  have HW := Lib.hid (HX.out.set 10 (.int .i64 (nm bs 22 1)) _ (set_tl _ _))
  go_wp2_with fail
  clear c f HX hm
  refine (q1 g h cap bs 23 24 _ HW.out.rd (by have := HLen.out; omega) rfl).mono ?_
  rintro e3 w3 ⟨rfl, hr, ho⟩
  have hm := in1 (nm_bd HBy.out 23 1)
  have HX := Lib.hid (HW.out.call hr ho)
  clear hr ho HW
  have c := HX.out.box.f11
  have f := HX.out.box.free 11
  have HW := Lib.hid (HX.out.set 11 (.int .i64 (nm bs 23 1)) _ (set_pr _ _))
  go_wp2_with fail
  clear c f HX hm
  refine (q2 g h cap bs 24 26 _ HW.out.rd (by have := HLen.out; omega) rfl).mono ?_
  rintro e4 w4 ⟨rfl, hr, ho⟩
  have HX := Lib.hid (HW.out.call hr ho)
  clear hr ho HW
  have HW := HX
  clear HX
  go_wp2_with fail
  refine (q4 g h cap bs 26 30 _ HW.out.rd (by have := HLen.out; omega) rfl).mono ?_
  rintro e5 w5 ⟨rfl, hr, ho⟩
  have hm := in4 (nm_bd HBy.out 26 4)
  have HX := Lib.hid (HW.out.call hr ho)
  clear hr ho HW
  have c := HX.out.box.f8
  have f := HX.out.box.free 8
  have HW := Lib.hid (HX.out.set 8 (.int .u32 (nm bs 26 4)) _ (set_hs _ _))
  go_wp2_with fail
  clear c f HX hm
  refine (q4 g h cap bs 30 34 _ HW.out.rd (by have := HLen.out; omega) rfl).mono ?_
  rintro e6 w6 ⟨rfl, hr, ho⟩
  have hm := in4 (nm_bd HBy.out 30 4)
  have HX := Lib.hid (HW.out.call hr ho)
  clear hr ho HW
  have c := HX.out.box.f9
  have f := HX.out.box.free 9
  have HW := Lib.hid (HX.out.set 9 (.int .u32 (nm bs 30 4)) _ (set_hd _ _))
  go_upto_region 9 with fail
  clear c f HX hm
  have cp := HW.out.box.f11
  dsimp only at cp
  go_wp2_with fail
  refine (ported_any _ _).mono ?_
  rintro e8 w8 ⟨rfl, rfl⟩
  rw [HP.out]
  clear cp
  go_wp2_with fail
  refine (q2 g h cap bs 34 36 _ HW.out.rd (by have := HLen.out; omega) rfl).mono ?_
  rintro e7 w7 ⟨rfl, hr, ho⟩
  have hm := in2 (nm_bd HBy.out 34 2)
  have HX := Lib.hid (HW.out.call hr ho)
  clear hr ho HW
  have c := HX.out.box.f12
  have f := HX.out.box.free 12
  have HW := Lib.hid (HX.out.set 12 (.int .i64 (nm bs 34 2)) _ (set_sp _ _))
  go_wp2_with fail
  clear c f HX hm
  refine (q2 g h cap bs 36 38 _ HW.out.rd (by have := HLen.out; omega) rfl).mono ?_
  rintro e8 w8 ⟨rfl, hr, ho⟩
  have hm := in2 (nm_bd HBy.out 36 2)
  have HX := Lib.hid (HW.out.call hr ho)
  clear hr ho HW
  have c := HX.out.box.f13
  have f := HX.out.box.free 13
  have HW := Lib.hid (HX.out.set 13 (.int .i64 (nm bs 36 2)) _ (set_dp _ _))
  go_wp2_with fail
  clear c f HX hm
  refine (q4 g h cap bs 38 42 _ HW.out.rd (by have := HLen.out; omega) rfl).mono ?_
  rintro e9 w9 ⟨rfl, hr, ho⟩
  have HX := Lib.hid (HW.out.call hr ho)
  clear hr ho HW
  have HW := HX
  clear HX
  go_wp2_with fail
  refine (q8 g h cap bs 42 50 _ HW.out.rd (by have := HLen.out; omega) rfl).mono ?_
  rintro e10 w10 ⟨rfl, hr, ho⟩
  have HX := Lib.hid (HW.out.call hr ho)
  clear hr ho HW
  have c := HX.out.box.f14
  have f := HX.out.box.free 14
  have HW := Lib.hid (HX.out.set 14 (.int .u64 (nm bs 42 8)) _ (set_da _ _))
  go_wp2_with (first
    | (refine wpList_load_row rfl 32 (.tmp 4) rfl W3.heap.size rfl 32 _ (0, 0) _ HW.out.box Try.underlying32 rfl (FR.fit _) ?_)
    | (refine wpList_store_row rfl 32 (.tmp 2) (.tmp 52) rfl w.heap.size _ rfl rfl 32 fr0.cs HW.out.zer (FR.fit _) rfl (FR.one _) ?_))
  clear c f HX
  have HE := Lib.hid (RB.end_ HW.out)
  exact bodyPost_ret (v := .agg (dHtF bs).cs) (results_cell_row rfl _ _ w.heap.size 32 (dHtF bs).cs (0, 0) _ rfl (setRow_heap _ _ _ _ _ HW.out.zer) Try.underlying32 rfl (FR.fit _)) rfl ⟨rfl, below_only (Below.refl _ w) HE.out.2 HG.out.2.2 (Nat.le_refl _)⟩

def dHfF (bs : List Int) : FR := ⟨(nm bs 6 6), (nm bs 0 6), (2), 0, 0, 0, 0, 0, (nm bs 26 4), (nm bs 30 4), (nm bs 22 1), (nm bs 23 1), 0, 0, (nm bs 34 8)⟩
set_option maxHeartbeats 2000000 in
theorem dHf_any (v : Value) (bs : List Int) (w : World) (hA : Arr w v bs) (hlen : bs.length = 42) (hby : ∀ v ∈ bs, 0 ≤ v ∧ v ≤ 255) (hp : pd (nm bs 23 1) = false) :
    Calls Try.prog 81 #[v] w fun e w' => e = .returned (.agg (dHfF bs).cs) ∧ Below w.heap.size w w' := by
  have HLen := Lib.hid hlen
  have HBy := Lib.hid hby
  clear hlen hby
  have HZ0 : Hid (Has (w.alloc (.cells #[.int .u64 0, .int .u64 0, .int .i64 0, .int .i64 0, .int .u64 0, .int .u32 0, .int .u64 0, .int .u32 0, .int .u32 0, .int .u32 0, .int .i64 0, .int .i64 0, .int .i64 0, .int .i64 0, .int .u64 0] 32)) w.heap.size 32 fr0.cs) := Lib.hid (Has.new w _ _)
  have HL0 : Hid (Below w.heap.size w (w.alloc (.cells #[.int .u64 0, .int .u64 0, .int .i64 0, .int .i64 0, .int .u64 0, .int .u32 0, .int .u64 0, .int .u32 0, .int .u32 0, .int .u32 0, .int .i64 0, .int .i64 0, .int .i64 0, .int .i64 0, .int .u64 0] 32))) := Lib.hid ((Below.refl _ w).alloc (Nat.le_refl _) _)
  obtain ⟨A, c, rfl⟩ := hA.form
  have HA := Lib.hid hA
  have HP := Lib.hid hp
  clear hA hp
  obtain ⟨ln, hln⟩ : ∃ ln, bs.length = ln := ⟨_, rfl⟩
  have HLn := Lib.hid hln
  rw [hln] at HA
  rw [hln]
  clear hln
  go_enter Try.func81, Try.ntmps81
  go_wp2_with fail
  refine (rnewA _ bs _ (HLn.out ▸ HA.out.below HL0.out) (by have := HLen.out; omega) HBy.out).mono ?_
  rintro e w1 ⟨g, h, cap, rfl, hg, hh, hr, hb1⟩
  have HZ1 := Lib.hid (HZ0.out.below hb1)
  have HL1 := Lib.hid (HL0.out.trans (hb1.mono HL0.out.size))
  have HG : Hid (w.heap.size < g ∧ w.heap.size < h ∧ w.heap.size ≤ g) := Lib.hid (by
    have := HZ0.out.lt
    have := HL0.out.size
    exact ⟨by omega, by omega, by omega⟩)
  clear hb1 hg hh HZ0 HL0
  have HR := Lib.hid hr
  clear hr
  go_wp2_with fail
  refine (start_any g h cap bs (by have := HLen.out; omega) HBy.out 2 _ HR.out).mono ?_
  rintro e W3 ⟨rfl, hr3, ho3⟩
  rw [show (startF bs 2).cs = #[.int .u64 (nm bs 6 6), .int .u64 (nm bs 0 6), .int .i64 2, .int .i64 0, .int .u64 0, .int .u32 0, .int .u64 0, .int .u32 0, .int .u32 0, .int .u32 0, .int .i64 0, .int .i64 0, .int .i64 0, .int .i64 0, .int .u64 0] from rfl]
  have HZ3 := Lib.hid (HZ1.out.grown ho3 (by rintro ⟨⟩; exact Nat.lt_irrefl _ HG.out.1))
  have HL3 := Lib.hid (below_only HL1.out ho3 HG.out.2.2 HL1.out.size)
  have HW : Hid (RB w g h cap ⟨bs, 0, 14, 0, 0⟩ W3.heap.size w.heap.size ⟨nm bs 6 6, nm bs 0 6, 2, 0, 0, 0, 0, 0, 0, 0, 0, 0, 0, 0, 0⟩ (W3.alloc (.cells #[.int .u64 (nm bs 6 6), .int .u64 (nm bs 0 6), .int .i64 2, .int .i64 0, .int .u64 0, .int .u32 0, .int .u64 0, .int .u32 0, .int .u32 0, .int .u32 0, .int .i64 0, .int .i64 0, .int .i64 0, .int .i64 0, .int .u64 0] 32))) := Lib.hid (RB.mk1 (x := startF bs 2) hr3 (by have := HG.out.1; omega) (by have := HG.out.2.1; omega) HZ3.out HL3.out (by omega))
  clear hr3 ho3 HZ3 HL3 HZ1 HL1 HR
  go_wp2_with fail
  refine (qB g h cap bs 14 8 22 _ HW.out.rd (by have := HLen.out; omega) rfl).mono ?_
  rintro e1 w1 ⟨⟨v1, rfl⟩, hr, ho⟩
  have HX := Lib.hid (HW.out.call hr ho)
  clear hr ho HW
  have HW := HX
  clear HX
  go_wp2_with fail
  refine (q1 g h cap bs 22 23 _ HW.out.rd (by have := HLen.out; omega) rfl).mono ?_
  rintro e2 w2 ⟨rfl, hr, ho⟩
  have hm := in1 (nm_bd HBy.out 22 1)
  have HX := Lib.hid (HW.out.call hr ho)
  clear hr ho HW
  have c := HX.out.box.f10
  have f := HX.out.box.free 10
  have HW := Lib.hid (HX.out.set 10 (.int .i64 (nm bs 22 1)) _ (set_tl _ _))
  go_wp2_with fail
  clear c f HX hm
  refine (q1 g h cap bs 23 24 _ HW.out.rd (by have := HLen.out; omega) rfl).mono ?_
  rintro e3 w3 ⟨rfl, hr, ho⟩
  have hm := in1 (nm_bd HBy.out 23 1)
  have HX := Lib.hid (HW.out.call hr ho)
  clear hr ho HW
  have c := HX.out.box.f11
  have f := HX.out.box.free 11
  have HW := Lib.hid (HX.out.set 11 (.int .i64 (nm bs 23 1)) _ (set_pr _ _))
  go_wp2_with fail
  clear c f HX hm
  refine (q2 g h cap bs 24 26 _ HW.out.rd (by have := HLen.out; omega) rfl).mono ?_
  rintro e4 w4 ⟨rfl, hr, ho⟩
  have HX := Lib.hid (HW.out.call hr ho)
  clear hr ho HW
  have HW := HX
  clear HX
  go_wp2_with fail
  refine (q4 g h cap bs 26 30 _ HW.out.rd (by have := HLen.out; omega) rfl).mono ?_
  rintro e5 w5 ⟨rfl, hr, ho⟩
  have hm := in4 (nm_bd HBy.out 26 4)
  have HX := Lib.hid (HW.out.call hr ho)
  clear hr ho HW
  have c := HX.out.box.f8
  have f := HX.out.box.free 8
  have HW := Lib.hid (HX.out.set 8 (.int .u32 (nm bs 26 4)) _ (set_hs _ _))
  go_wp2_with fail
  clear c f HX hm
  refine (q4 g h cap bs 30 34 _ HW.out.rd (by have := HLen.out; omega) rfl).mono ?_
  rintro e6 w6 ⟨rfl, hr, ho⟩
  have hm := in4 (nm_bd HBy.out 30 4)
  have HX := Lib.hid (HW.out.call hr ho)
  clear hr ho HW
  have c := HX.out.box.f9
  have f := HX.out.box.free 9
  have HW := Lib.hid (HX.out.set 9 (.int .u32 (nm bs 30 4)) _ (set_hd _ _))
  go_upto_region 9 with fail
  clear c f HX hm
  have cp := HW.out.box.f11
  dsimp only at cp
  go_wp2_with fail
  refine (ported_any _ _).mono ?_
  rintro e8 w8 ⟨rfl, rfl⟩
  rw [HP.out]
  clear cp
  go_wp2_with fail
  refine (q8 g h cap bs 34 42 _ HW.out.rd (by have := HLen.out; omega) rfl).mono ?_
  rintro e7 w7 ⟨rfl, hr, ho⟩
  have HX := Lib.hid (HW.out.call hr ho)
  clear hr ho HW
  have c := HX.out.box.f14
  have f := HX.out.box.free 14
  have HW := Lib.hid (HX.out.set 14 (.int .u64 (nm bs 34 8)) _ (set_da _ _))
  go_wp2_with (first
    | (refine wpList_load_row rfl 32 (.tmp 4) rfl W3.heap.size rfl 32 _ (0, 0) _ HW.out.box Try.underlying32 rfl (FR.fit _) ?_)
    | (refine wpList_store_row rfl 32 (.tmp 2) (.tmp 52) rfl w.heap.size _ rfl rfl 32 fr0.cs HW.out.zer (FR.fit _) rfl (FR.one _) ?_))
  clear c f HX
  have HE := Lib.hid (RB.end_ HW.out)
  exact bodyPost_ret (v := .agg (dHfF bs).cs) (results_cell_row rfl _ _ w.heap.size 32 (dHfF bs).cs (0, 0) _ rfl (setRow_heap _ _ _ _ _ HW.out.zer) Try.underlying32 rfl (FR.fit _)) rfl ⟨rfl, below_only (Below.refl _ w) HE.out.2 HG.out.2.2 (Nat.le_refl _)⟩

def dDF (bs : List Int) : FR := ⟨(nm bs 6 6), (nm bs 0 6), (0), 0, 0, 0, 0, 0, 0, 0, 0, 0, 0, 0, (nm bs 14 8)⟩
set_option maxHeartbeats 2000000 in
theorem dD_any (bs : List Int) (hlen : bs.length = 22) (hby : ∀ v ∈ bs, 0 ≤ v ∧ v ≤ 255) (w : World) :
    Calls Try.prog 82 #[.agg (u8s bs).toArray] w fun e w' => e = .returned (.agg (dDF bs).cs) ∧ Below w.heap.size w w' := by
  obtain ⟨cs, hcs⟩ : ∃ cs, (u8s bs).toArray = cs := ⟨_, rfl⟩
  have HC := Lib.hid hcs
  rw [hcs]
  clear hcs
  have HLen := Lib.hid hlen
  have HBy := Lib.hid hby
  clear hlen hby
  have HB0 : Hid (Has ((w.alloc (.cells cs 117)).alloc (.cells #[.int .u64 0, .int .u64 0, .int .i64 0, .int .i64 0, .int .u64 0, .int .u32 0, .int .u64 0, .int .u32 0, .int .u32 0, .int .u32 0, .int .i64 0, .int .i64 0, .int .i64 0, .int .i64 0, .int .u64 0] 32)) w.heap.size 117 cs) := Lib.hid ((Has.new w _ _).below ((Below.refl _ _).alloc (Nat.le_refl _) _))
  have HZ0 : Hid (Has ((w.alloc (.cells cs 117)).alloc (.cells #[.int .u64 0, .int .u64 0, .int .i64 0, .int .i64 0, .int .u64 0, .int .u32 0, .int .u64 0, .int .u32 0, .int .u32 0, .int .u32 0, .int .i64 0, .int .i64 0, .int .i64 0, .int .i64 0, .int .u64 0] 32)) (w.heap.size + 1) 32 fr0.cs) := Lib.hid (by
    have h1 := Has.new (w.alloc (.cells cs 117)) 32 fr0.cs
    rw [World.size_alloc] at h1
    exact h1)
  have HL0 : Hid (Below w.heap.size w ((w.alloc (.cells cs 117)).alloc (.cells #[.int .u64 0, .int .u64 0, .int .i64 0, .int .i64 0, .int .u64 0, .int .u32 0, .int .u64 0, .int .u32 0, .int .u32 0, .int .u32 0, .int .i64 0, .int .i64 0, .int .i64 0, .int .i64 0, .int .u64 0] 32))) := Lib.hid (((Below.refl _ w).alloc (Nat.le_refl _) _).alloc (by simp) _)
  go_enter Try.func82, Try.ntmps82
  go_wp2_with fail
  refine (rnewA (.slice (some ⟨w.heap.size, 0, none⟩) 22 22) bs _ (by
    refine .inr ⟨_, 22, by rw [HLen.out], fun j u hu => ?_⟩
    have h2 : cs[j]? = some u := by rw [← HC.out, ← Array.getElem?_toList]; exact hu
    rw [Addr.add_mid, Nat.zero_add]
    exact (HB0.out.cell j).trans h2) (by rw [HLen.out]; decide) HBy.out).mono ?_
  rintro e w1 ⟨g, h, cap, rfl, hg, hh, hr, hb1⟩
  have HZ1 := Lib.hid (HZ0.out.below hb1)
  have HL1 := Lib.hid (HL0.out.trans (hb1.mono HL0.out.size))
  have HG : Hid ((w.heap.size + 1) < g ∧ (w.heap.size + 1) < h ∧ w.heap.size ≤ g) := Lib.hid (by
    have := HZ0.out.lt
    have := HL0.out.size
    exact ⟨by omega, by omega, by omega⟩)
  clear hb1 hg hh HZ0 HL0
  have HR := Lib.hid hr
  clear hr
  go_wp2_with fail
  refine (start_any g h cap bs (by have := HLen.out; omega) HBy.out 0 _ HR.out).mono ?_
  rintro e W3 ⟨rfl, hr3, ho3⟩
  rw [show (startF bs 0).cs = #[.int .u64 (nm bs 6 6), .int .u64 (nm bs 0 6), .int .i64 0, .int .i64 0, .int .u64 0, .int .u32 0, .int .u64 0, .int .u32 0, .int .u32 0, .int .u32 0, .int .i64 0, .int .i64 0, .int .i64 0, .int .i64 0, .int .u64 0] from rfl]
  have HZ3 := Lib.hid (HZ1.out.grown ho3 (by rintro ⟨⟩; exact Nat.lt_irrefl _ HG.out.1))
  have HL3 := Lib.hid (below_only HL1.out ho3 HG.out.2.2 HL1.out.size)
  have HW : Hid (RB w g h cap ⟨bs, 0, 14, 0, 0⟩ W3.heap.size (w.heap.size + 1) ⟨nm bs 6 6, nm bs 0 6, 0, 0, 0, 0, 0, 0, 0, 0, 0, 0, 0, 0, 0⟩ (W3.alloc (.cells #[.int .u64 (nm bs 6 6), .int .u64 (nm bs 0 6), .int .i64 0, .int .i64 0, .int .u64 0, .int .u32 0, .int .u64 0, .int .u32 0, .int .u32 0, .int .u32 0, .int .i64 0, .int .i64 0, .int .i64 0, .int .i64 0, .int .u64 0] 32))) := Lib.hid (RB.mk1 (x := startF bs 0) hr3 (by have := HG.out.1; omega) (by have := HG.out.2.1; omega) HZ3.out HL3.out (by omega))
  clear hr3 ho3 HZ3 HL3 HZ1 HL1 HR
  go_wp2_with fail
  refine (q8 g h cap bs 14 22 _ HW.out.rd (by have := HLen.out; omega) rfl).mono ?_
  rintro e1 w1 ⟨rfl, hr, ho⟩
  have HX := Lib.hid (HW.out.call hr ho)
  clear hr ho HW
  have c := HX.out.box.f14
  have f := HX.out.box.free 14
  have HW := Lib.hid (HX.out.set 14 (.int .u64 (nm bs 14 8)) _ (set_da _ _))
  go_wp2_with (first
    | (refine wpList_load_row rfl 32 (.tmp 4) rfl W3.heap.size rfl 32 _ (0, 0) _ HW.out.box Try.underlying32 rfl (FR.fit _) ?_)
    | (refine wpList_store_row rfl 32 (.tmp 2) (.tmp 12) rfl (w.heap.size + 1) _ rfl rfl 32 fr0.cs HW.out.zer (FR.fit _) rfl (FR.one _) ?_))
  clear c f HX
  have HE := Lib.hid (RB.end_ HW.out)
  exact bodyPost_ret (v := .agg (dDF bs).cs) (results_cell_row rfl _ _ (w.heap.size + 1) 32 (dDF bs).cs (0, 0) _ rfl (setRow_heap _ _ _ _ _ HW.out.zer) Try.underlying32 rfl (FR.fit _)) rfl ⟨rfl, below_only (Below.refl _ w) HE.out.2 HG.out.2.2 (Nat.le_refl _)⟩

end Go.Proofs.Ytgdfpmnbofnjfaa
