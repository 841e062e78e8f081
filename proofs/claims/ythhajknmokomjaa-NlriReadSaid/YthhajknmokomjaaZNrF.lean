/- Routes read: the start of a value, and the values of the five kinds; written by gen_nrf.py. -/
import Derived.Test.YthhajknmokomjaaZNra
namespace Go.Proofs.Ythhajknmokomjaa
open Go.RowKit Go.Maps Go.Shelf
set_option linter.unusedVariables false
set_option linter.unusedSimpArgs false
set_option maxRecDepth 100000

theorem in3 {v : Int} (h : 0 ≤ v ∧ v < 256 ^ 3) : IntKind.u32.wrap v = v := by
  have e : IntKind.u32.wrap v = v % 4294967296 := by rfl
  rw [e]; omega
theorem in4 {v : Int} (h : 0 ≤ v ∧ v < 256 ^ 4) : IntKind.u32.wrap v = v := by
  have e : IntKind.u32.wrap v = v % 4294967296 := by rfl
  rw [e]; omega
theorem in1 {v : Int} (h : 0 ≤ v ∧ v < 256 ^ 1) : IntKind.i64.wrap v = v := IntWalk.i64_in _ (by omega)
theorem RB.mk1 {w w1 : World} {g h cap R : Nat} {s : RS} (H : RdS w1 g h cap s) (on : Only w g w1) (hg : g < w.heap.size) (hh : h < w.heap.size) (hz : Has w1 R 31 zcs) (hR : w.heap.size ≤ R) : RB w g h cap s w1.heap.size R nl0 (w1.alloc (.cells zcs 31)) := by
  have hs := on.size
  have hl := hz.lt
  refine ⟨Rd.below H ((Below.refl _ w1).alloc (Nat.le_refl _) _), ?_, hz.below ((Below.refl _ w1).alloc (Nat.le_refl _) _), by omega, by omega, by omega, by omega, by omega, only_alloc on _, hs, hR⟩
  exact Has.new w1 31 zcs
theorem RB.drew {w0 W W' : World} {g h cap B R n : Nat} {s : RS} {x : NL} (H : RB w0 g h cap s B R x W) (hn : W' = W.drewN n) : RB w0 g h cap s B R x W' := by
  subst hn
  exact H.call (Rd.drewN H.rd n) (only_drewN (only_refl _ _) n)
theorem tens_one (X : List Int) : (tens X).toArray.all (·.oneCell') = true := by simp [Value.oneCell']
theorem RdS.lts {w : World} {g h cap : Nat} {s : RS} (H : RdS w g h cap s) : g < w.heap.size ∧ h < w.heap.size := by
  refine ⟨H.blk.lt, ?_⟩
  obtain ⟨_, hh, _⟩ := H.row
  exact hh.lt

set_option maxHeartbeats 2000000 in
theorem start_read (g h cap : Nat) (s : RS) (k : Int) (w : World) (H : RdS w g h cap s) :
    Calls Try.prog 96 #[.pointer (some ⟨g, 0, none⟩), .int .i64 k] w fun e w' => e = .returned (.agg (start k s).cs) ∧ RdS w' g h cap (startS s) ∧ Only w g w' := by
  have HW0 : Hid (RB w g h cap s (w.heap.size + 1) w.heap.size nl0 ((w.alloc (.cells zcs 31)).alloc (.cells zcs 31))) := Lib.hid (RB.start H)
  have HW : Hid (RB w g h cap s (w.heap.size + 1) w.heap.size ⟨k, 0, 0, 0, 0, 0, 0, 0, 0, 0, 0, 0, 0, 0, 0, false, 0, 0, 0, 0, 0⟩ (((w.alloc (.cells zcs 31)).alloc (.cells zcs 31)).setRow (w.heap.size + 1) (⟨k, 0, 0, 0, 0, 0, 0, 0, 0, 0, 0, 0, 0, 0, 0, false, 0, 0, 0, 0, 0⟩ : NL).cs)) := Lib.hid (HW0.out.row _)
  clear H
  go_enter Try.func96, Try.ntmps96
  go_wp2_with (refine wpList_store_row rfl 31 (.tmp 5) (.tmp 7) rfl (w.heap.size + 1) (⟨k, 0, 0, 0, 0, 0, 0, 0, 0, 0, 0, 0, 0, 0, 0, false, 0, 0, 0, 0, 0⟩ : NL).cs rfl rfl 31 zcs HW0.out.box (NL.fit _) rfl (NL.one _) ?_)
  clear HW0
  refine (rU8 g h cap _ _ HW.out.rd).mono ?_
  rintro e1 w1 ⟨rfl, hr, ho⟩
  have HX := Lib.hid (HW.out.call hr ho)
  clear hr ho HW
  have c := HX.out.box.n1
  have f := HX.out.box.free 1
  have HW := Lib.hid (HX.out.set 1 (.int .u64 ((s).got 8)) _ (set_rd _ _))
  go_wp2_with fail
  clear c f HX
  refine (esi_read g h cap _ _ HW.out.rd).mono ?_
  rintro e2 w2 ⟨rfl, hr, ho⟩
  have HX := Lib.hid (HW.out.call hr ho)
  clear hr ho HW
  have HW := Lib.hid (HX.out.sets 2 (tens ((((s).take 8).2).x 10)) _ (set_esi _ _))
  have HTh := Lib.hid (HX.out.box.there 2 10 (by simp [NL.size]))
  go_wp2_with (refine wpList_store_mid rfl 24 (.tmp 13) (.tmp 12) rfl (w.heap.size + 1) 2 (tens ((((s).take 8).2).x 10)).toArray rfl rfl HTh.out esi_fit (tens_one _) ?_; change wpList _ _ _ _ _ (w2.setCells (w.heap.size + 1) 2 (tens ((((s).take 8).2).x 10))); have hw := HW.out; clear HW HTh HX; generalize w2.setCells (w.heap.size + 1) 2 (tens ((((s).take 8).2).x 10)) = W2 at hw ⊢; have HW := Lib.hid hw; clear hw)
  refine (rU4 g h cap _ _ HW.out.rd).mono ?_
  rintro e3 w3 ⟨rfl, hr, ho⟩
  have hm := in4 (got_bd HW.out.rd 4)
  have HX := Lib.hid (HW.out.call hr ho)
  clear hr ho HW
  have c := HX.out.box.n12
  have f := HX.out.box.free 12
  have HW := Lib.hid (HX.out.set 12 (.int .u32 ((((((s).take 8).2).take 10).2).got 4)) _ (set_tag _ _))
  go_wp2_with (first
    | (refine wpList_load_row rfl 31 (.tmp 5) rfl (w.heap.size + 1) rfl 31 _ (0, 0) _ HW.out.box Try.underlying31 rfl (NL.fit _) ?_)
    | (refine wpList_store_row rfl 31 (.tmp 4) (.tmp 18) rfl (w.heap.size) _ rfl rfl 31 zcs HW.out.zer (NL.fit _) rfl (NL.one _) ?_))
  clear c f HX hm
  have HE := Lib.hid (RB.end_ HW.out)
  exact bodyPost_ret (v := .agg (start k s).cs) (results_cell_row rfl _ _ (w.heap.size) 31 (start k s).cs (0, 0) _ rfl (setRow_heap _ _ _ _ _ _ HW.out.zer) Try.underlying31 rfl (NL.fit _)) rfl ⟨rfl, HE.out.1, HE.out.2⟩

set_option maxHeartbeats 2000000 in
theorem read3 (g h cap : Nat) (s : RS) (w : World) (H : RdS w g h cap s) :
    Calls Try.prog 118 #[.agg #[], .pointer (some ⟨g, 0, none⟩)] w fun e w' => e = .returned (.agg (g3 s).cs) ∧ Only w g w' := by
  have hb : Below w.heap.size w ((w.alloc (.cells #[] 93)).alloc (.cells zcs 31)) := ((Below.refl _ w).alloc (Nat.le_refl _) _).alloc (by simp) _
  have HW0 : Hid (RB w g h cap s (w.heap.size + 1 + 1) (w.heap.size + 1) nl0 (((w.alloc (.cells #[] 93)).alloc (.cells zcs 31)).alloc (.cells zcs 31))) := Lib.hid (by
    have hz : Has ((w.alloc (.cells #[] 93)).alloc (.cells zcs 31)) (w.heap.size + 1) 31 zcs := by
      have h1 := Has.new (w.alloc (.cells #[] 93)) 31 zcs
      simpa using h1
    have h2 := RB.mk1 (Rd.below H hb) (only_below hb g) (RdS.lts H).1 (RdS.lts H).2 hz (by omega)
    simpa using h2)
  have HW : Hid (RB w g h cap s (w.heap.size + 1 + 1) (w.heap.size + 1) ⟨3, 0, 0, 0, 0, 0, 0, 0, 0, 0, 0, 0, 0, 0, 0, false, 0, 0, 0, 0, 0⟩ ((((w.alloc (.cells #[] 93)).alloc (.cells zcs 31)).alloc (.cells zcs 31)).setRow (w.heap.size + 1 + 1) (⟨3, 0, 0, 0, 0, 0, 0, 0, 0, 0, 0, 0, 0, 0, 0, false, 0, 0, 0, 0, 0⟩ : NL).cs)) := Lib.hid (HW0.out.row _)
  clear H hb
  go_enter Try.func118, Try.ntmps118
  go_wp2_with (refine wpList_store_row rfl 31 (.tmp 5) (.tmp 6) rfl (w.heap.size + 1 + 1) (⟨3, 0, 0, 0, 0, 0, 0, 0, 0, 0, 0, 0, 0, 0, 0, false, 0, 0, 0, 0, 0⟩ : NL).cs rfl rfl 31 zcs HW0.out.box (NL.fit _) rfl (NL.one _) ?_)
  clear HW0
  refine (rU8 g h cap _ _ HW.out.rd).mono ?_
  rintro e1 w1 ⟨rfl, hr, ho⟩
  have HX := Lib.hid (HW.out.call hr ho)
  clear hr ho HW
  have c := HX.out.box.n1
  have f := HX.out.box.free 1
  have HW := Lib.hid (HX.out.set 1 (.int .u64 ((s).got 8)) _ (set_rd _ _))
  go_wp2_with fail
  clear c f HX
  refine (rU4 g h cap _ _ HW.out.rd).mono ?_
  rintro e2 w2 ⟨rfl, hr, ho⟩
  have hm := in4 (got_bd HW.out.rd 4)
  have HX := Lib.hid (HW.out.call hr ho)
  clear hr ho HW
  have c := HX.out.box.n12
  have f := HX.out.box.free 12
  have HW := Lib.hid (HX.out.set 12 (.int .u32 ((((s).take 8).2).got 4)) _ (set_tag _ _))
  go_wp2_with fail
  clear c f HX hm
  refine (rU1 g h cap _ _ HW.out.rd).mono ?_
  rintro e3 w3 ⟨rfl, hr, ho⟩
  have HX := Lib.hid (HW.out.call hr ho)
  clear hr ho HW
  have c := HX.out.box.n15
  have f := HX.out.box.free 15
  have HW := Lib.hid (HX.out.set 15 (.bool (((((((s).take 8).2).take 4).2).got 1) == 32)) _ (set_has _ _))
  go_wp2_with fail
  clear c f HX
  refine (rU4 g h cap _ _ HW.out.rd).mono ?_
  rintro e4 w4 ⟨rfl, hr, ho⟩
  have hm := in4 (got_bd HW.out.rd 4)
  have HX := Lib.hid (HW.out.call hr ho)
  clear hr ho HW
  have c := HX.out.box.n14
  have f := HX.out.box.free 14
  have HW := Lib.hid (HX.out.set 14 (.int .u32 ((((((((s).take 8).2).take 4).2).take 1).2).got 4)) _ (set_ip _ _))
  go_wp2_with (first
    | (refine wpList_load_row rfl 31 (.tmp 5) rfl (w.heap.size + 1 + 1) rfl 31 _ (0, 0) _ HW.out.box Try.underlying31 rfl (NL.fit _) ?_)
    | (refine wpList_store_row rfl 31 (.tmp 4) (.tmp 22) rfl (w.heap.size + 1) _ rfl rfl 31 zcs HW.out.zer (NL.fit _) rfl (NL.one _) ?_))
  clear c f HX hm
  have HE := Lib.hid (RB.end_ HW.out)
  exact bodyPost_ret (v := .agg (g3 s).cs) (results_cell_row rfl _ _ (w.heap.size + 1) 31 (g3 s).cs (0, 0) _ rfl (setRow_heap _ _ _ _ _ _ HW.out.zer) Try.underlying31 rfl (NL.fit _)) rfl ⟨rfl, HE.out.2⟩

set_option maxHeartbeats 2000000 in
theorem read4 (g h cap : Nat) (s : RS) (w : World) (H : RdS w g h cap s) :
    Calls Try.prog 121 #[.agg #[], .pointer (some ⟨g, 0, none⟩)] w fun e w' => e = .returned (.agg (g4 s).cs) ∧ Only w g w' := by
  have hb : Below w.heap.size w ((w.alloc (.cells #[] 94)).alloc (.cells zcs 31)) := ((Below.refl _ w).alloc (Nat.le_refl _) _).alloc (by simp) _
  have HW0 : Hid (RB w g h cap s (w.heap.size + 1 + 1) (w.heap.size + 1) nl0 (((w.alloc (.cells #[] 94)).alloc (.cells zcs 31)).alloc (.cells zcs 31))) := Lib.hid (by
    have hz : Has ((w.alloc (.cells #[] 94)).alloc (.cells zcs 31)) (w.heap.size + 1) 31 zcs := by
      have h1 := Has.new (w.alloc (.cells #[] 94)) 31 zcs
      simpa using h1
    have h2 := RB.mk1 (Rd.below H hb) (only_below hb g) (RdS.lts H).1 (RdS.lts H).2 hz (by omega)
    simpa using h2)
  have HW : Hid (RB w g h cap s (w.heap.size + 1 + 1) (w.heap.size + 1) ⟨4, 0, 0, 0, 0, 0, 0, 0, 0, 0, 0, 0, 0, 0, 0, false, 0, 0, 0, 0, 0⟩ ((((w.alloc (.cells #[] 94)).alloc (.cells zcs 31)).alloc (.cells zcs 31)).setRow (w.heap.size + 1 + 1) (⟨4, 0, 0, 0, 0, 0, 0, 0, 0, 0, 0, 0, 0, 0, 0, false, 0, 0, 0, 0, 0⟩ : NL).cs)) := Lib.hid (HW0.out.row _)
  clear H hb
  go_enter Try.func121, Try.ntmps121
  go_wp2_with (refine wpList_store_row rfl 31 (.tmp 5) (.tmp 6) rfl (w.heap.size + 1 + 1) (⟨4, 0, 0, 0, 0, 0, 0, 0, 0, 0, 0, 0, 0, 0, 0, false, 0, 0, 0, 0, 0⟩ : NL).cs rfl rfl 31 zcs HW0.out.box (NL.fit _) rfl (NL.one _) ?_)
  clear HW0
  refine (rU8 g h cap _ _ HW.out.rd).mono ?_
  rintro e1 w1 ⟨rfl, hr, ho⟩
  have HX := Lib.hid (HW.out.call hr ho)
  clear hr ho HW
  have c := HX.out.box.n1
  have f := HX.out.box.free 1
  have HW := Lib.hid (HX.out.set 1 (.int .u64 ((s).got 8)) _ (set_rd _ _))
  go_wp2_with fail
  clear c f HX
  refine (esi_read g h cap _ _ HW.out.rd).mono ?_
  rintro e2 w2 ⟨rfl, hr, ho⟩
  have HX := Lib.hid (HW.out.call hr ho)
  clear hr ho HW
  have HW := Lib.hid (HX.out.sets 2 (tens ((((s).take 8).2).x 10)) _ (set_esi _ _))
  have HTh := Lib.hid (HX.out.box.there 2 10 (by simp [NL.size]))
  go_wp2_with (refine wpList_store_mid rfl 24 (.tmp 12) (.tmp 11) rfl (w.heap.size + 1 + 1) 2 (tens ((((s).take 8).2).x 10)).toArray rfl rfl HTh.out esi_fit (tens_one _) ?_; change wpList _ _ _ _ _ (w2.setCells (w.heap.size + 1 + 1) 2 (tens ((((s).take 8).2).x 10))); have hw := HW.out; clear HW HTh HX; generalize w2.setCells (w.heap.size + 1 + 1) 2 (tens ((((s).take 8).2).x 10)) = W2 at hw ⊢; have HW := Lib.hid hw; clear hw)
  refine (rU1 g h cap _ _ HW.out.rd).mono ?_
  rintro e3 w3 ⟨rfl, hr, ho⟩
  have HX := Lib.hid (HW.out.call hr ho)
  clear hr ho HW
  have c := HX.out.box.n15
  have f := HX.out.box.free 15
  have HW := Lib.hid (HX.out.set 15 (.bool (((((((s).take 8).2).take 10).2).got 1) == 32)) _ (set_has _ _))
  go_wp2_with fail
  clear c f HX
  refine (rU4 g h cap _ _ HW.out.rd).mono ?_
  rintro e4 w4 ⟨rfl, hr, ho⟩
  have hm := in4 (got_bd HW.out.rd 4)
  have HX := Lib.hid (HW.out.call hr ho)
  clear hr ho HW
  have c := HX.out.box.n14
  have f := HX.out.box.free 14
  have HW := Lib.hid (HX.out.set 14 (.int .u32 ((((((((s).take 8).2).take 10).2).take 1).2).got 4)) _ (set_ip _ _))
  go_wp2_with (first
    | (refine wpList_load_row rfl 31 (.tmp 5) rfl (w.heap.size + 1 + 1) rfl 31 _ (0, 0) _ HW.out.box Try.underlying31 rfl (NL.fit _) ?_)
    | (refine wpList_store_row rfl 31 (.tmp 4) (.tmp 21) rfl (w.heap.size + 1) _ rfl rfl 31 zcs HW.out.zer (NL.fit _) rfl (NL.one _) ?_))
  clear c f HX hm
  have HE := Lib.hid (RB.end_ HW.out)
  exact bodyPost_ret (v := .agg (g4 s).cs) (results_cell_row rfl _ _ (w.heap.size + 1) 31 (g4 s).cs (0, 0) _ rfl (setRow_heap _ _ _ _ _ _ HW.out.zer) Try.underlying31 rfl (NL.fit _)) rfl ⟨rfl, HE.out.2⟩

set_option maxHeartbeats 2000000 in
theorem read1 (g h cap : Nat) (s : RS) (w : World) (H : RdS w g h cap s) :
    Calls Try.prog 93 #[.agg #[], .pointer (some ⟨g, 0, none⟩)] w fun e w' => e = .returned (.agg (g1 s).cs) ∧ Only w g w' := by
  have hb : Below w.heap.size w ((w.alloc (.cells #[] 91)).alloc (.cells zcs 31)) := ((Below.refl _ w).alloc (Nat.le_refl _) _).alloc (by simp) _
  have HL : Hid (g < w.heap.size ∧ h < w.heap.size) := Lib.hid (RdS.lts H)
  have HZ : Hid (Has ((w.alloc (.cells #[] 91)).alloc (.cells zcs 31)) (w.heap.size + 1) 31 zcs) := Lib.hid (by
    have h1 := Has.new (w.alloc (.cells #[] 91)) 31 zcs
    simpa using h1)
  have HR : Hid (RdS ((w.alloc (.cells #[] 91)).alloc (.cells zcs 31)) g h cap s) := Lib.hid (Rd.below H hb)
  have HB := Lib.hid hb
  clear H hb
  go_enter Try.func93, Try.ntmps93
  go_wp2_with fail
  refine (start_read g h cap s 1 _ HR.out).mono ?_
  rintro e0 w0 ⟨rfl, hr, ho⟩
  have HW0 : Hid (RB w g h cap (startS s) w0.heap.size (w.heap.size + 1) nl0 (w0.alloc (.cells zcs 31))) := Lib.hid (RB.mk1 hr (only_trans (only_below HB.out g) ho) HL.out.1 HL.out.2 (HZ.out.grown ho (by have := HL.out.1; rintro ⟨⟩; omega)) (by omega))
  have HW : Hid (RB w g h cap (startS s) w0.heap.size (w.heap.size + 1) (start 1 s) ((w0.alloc (.cells zcs 31)).setRow w0.heap.size (start 1 s).cs)) := Lib.hid (HW0.out.row _)
  clear hr ho HZ HR HB
  go_wp2_with (refine wpList_store_row rfl 31 (.tmp 5) (.tmp 7) rfl w0.heap.size (start 1 s).cs rfl rfl 31 zcs HW0.out.box (NL.fit _) rfl (NL.one _) ?_)
  clear HW0
  refine (rU3 g h cap _ _ HW.out.rd).mono ?_
  rintro e1 w1 ⟨rfl, hr, ho⟩
  have hm := in3 (got_bd HW.out.rd 3)
  have HX := Lib.hid (HW.out.call hr ho)
  clear hr ho HW
  have c := HX.out.box.n19
  have f := HX.out.box.free 19
  have HW := Lib.hid (HX.out.set 19 (.int .u32 ((startS s).got 3)) _ (set_l1 _ _))
  go_wp2_with (first
    | (refine wpList_load_row rfl 31 (.tmp 5) rfl (w0.heap.size) rfl 31 _ (0, 0) _ HW.out.box Try.underlying31 rfl (NL.fit _) ?_)
    | (refine wpList_store_row rfl 31 (.tmp 4) (.tmp 12) rfl (w.heap.size + 1) _ rfl rfl 31 zcs HW.out.zer (NL.fit _) rfl (NL.one _) ?_))
  clear c f HX hm
  have HE := Lib.hid (RB.end_ HW.out)
  exact bodyPost_ret (v := .agg (g1 s).cs) (results_cell_row rfl _ _ (w.heap.size + 1) 31 (g1 s).cs (0, 0) _ rfl (setRow_heap _ _ _ _ _ _ HW.out.zer) Try.underlying31 rfl (NL.fit _)) rfl ⟨rfl, HE.out.2⟩

set_option maxHeartbeats 2000000 in
theorem read5 (g h cap : Nat) (s : RS) (w : World) (H : RdS w g h cap s) :
    Calls Try.prog 124 #[.agg #[], .pointer (some ⟨g, 0, none⟩)] w fun e w' => e = .returned (.agg (g5 s).cs) ∧ Only w g w' := by
  have hb : Below w.heap.size w ((w.alloc (.cells #[] 95)).alloc (.cells zcs 31)) := ((Below.refl _ w).alloc (Nat.le_refl _) _).alloc (by simp) _
  have HL : Hid (g < w.heap.size ∧ h < w.heap.size) := Lib.hid (RdS.lts H)
  have HZ : Hid (Has ((w.alloc (.cells #[] 95)).alloc (.cells zcs 31)) (w.heap.size + 1) 31 zcs) := Lib.hid (by
    have h1 := Has.new (w.alloc (.cells #[] 95)) 31 zcs
    simpa using h1)
  have HR : Hid (RdS ((w.alloc (.cells #[] 95)).alloc (.cells zcs 31)) g h cap s) := Lib.hid (Rd.below H hb)
  have HB := Lib.hid hb
  clear H hb
  go_enter Try.func124, Try.ntmps124
  go_wp2_with fail
  refine (start_read g h cap s 5 _ HR.out).mono ?_
  rintro e0 w0 ⟨rfl, hr, ho⟩
  have HW0 : Hid (RB w g h cap (startS s) w0.heap.size (w.heap.size + 1) nl0 (w0.alloc (.cells zcs 31))) := Lib.hid (RB.mk1 hr (only_trans (only_below HB.out g) ho) HL.out.1 HL.out.2 (HZ.out.grown ho (by have := HL.out.1; rintro ⟨⟩; omega)) (by omega))
  have HW : Hid (RB w g h cap (startS s) w0.heap.size (w.heap.size + 1) (start 5 s) ((w0.alloc (.cells zcs 31)).setRow w0.heap.size (start 5 s).cs)) := Lib.hid (HW0.out.row _)
  clear hr ho HZ HR HB
  go_wp2_with (refine wpList_store_row rfl 31 (.tmp 5) (.tmp 7) rfl w0.heap.size (start 5 s).cs rfl rfl 31 zcs HW0.out.box (NL.fit _) rfl (NL.one _) ?_)
  clear HW0
  refine (rU1 g h cap _ _ HW.out.rd).mono ?_
  rintro e1 w1 ⟨rfl, hr, ho⟩
  have hm := in1 (got_bd HW.out.rd 1)
  have HX := Lib.hid (HW.out.call hr ho)
  clear hr ho HW
  have c := HX.out.box.n17
  have f := HX.out.box.free 17
  have HW := Lib.hid (HX.out.set 17 (.int .i64 ((startS s).got 1)) _ (set_pl _ _))
  go_wp2_with fail
  clear c f HX hm
  refine (rU4 g h cap _ _ HW.out.rd).mono ?_
  rintro e2 w2 ⟨rfl, hr, ho⟩
  have hm := in4 (got_bd HW.out.rd 4)
  have HX := Lib.hid (HW.out.call hr ho)
  clear hr ho HW
  have c := HX.out.box.n16
  have f := HX.out.box.free 16
  have HW := Lib.hid (HX.out.set 16 (.int .u32 ((((startS s).take 1).2).got 4)) _ (set_pip _ _))
  go_wp2_with fail
  clear c f HX hm
  refine (rU4 g h cap _ _ HW.out.rd).mono ?_
  rintro e3 w3 ⟨rfl, hr, ho⟩
  have hm := in4 (got_bd HW.out.rd 4)
  have HX := Lib.hid (HW.out.call hr ho)
  clear hr ho HW
  have c := HX.out.box.n18
  have f := HX.out.box.free 18
  have HW := Lib.hid (HX.out.set 18 (.int .u32 ((((((startS s).take 1).2).take 4).2).got 4)) _ (set_gw _ _))
  go_wp2_with fail
  clear c f HX hm
  refine (rU3 g h cap _ _ HW.out.rd).mono ?_
  rintro e4 w4 ⟨rfl, hr, ho⟩
  have hm := in3 (got_bd HW.out.rd 3)
  have HX := Lib.hid (HW.out.call hr ho)
  clear hr ho HW
  have c := HX.out.box.n19
  have f := HX.out.box.free 19
  have HW := Lib.hid (HX.out.set 19 (.int .u32 ((((((((startS s).take 1).2).take 4).2).take 4).2).got 3)) _ (set_l1 _ _))
  go_wp2_with (first
    | (refine wpList_load_row rfl 31 (.tmp 5) rfl (w0.heap.size) rfl 31 _ (0, 0) _ HW.out.box Try.underlying31 rfl (NL.fit _) ?_)
    | (refine wpList_store_row rfl 31 (.tmp 4) (.tmp 26) rfl (w.heap.size + 1) _ rfl rfl 31 zcs HW.out.zer (NL.fit _) rfl (NL.one _) ?_))
  clear c f HX hm
  have HE := Lib.hid (RB.end_ HW.out)
  exact bodyPost_ret (v := .agg (g5 s).cs) (results_cell_row rfl _ _ (w.heap.size + 1) 31 (g5 s).cs (0, 0) _ rfl (setRow_heap _ _ _ _ _ _ HW.out.zer) Try.underlying31 rfl (NL.fit _)) rfl ⟨rfl, HE.out.2⟩

theorem rleftS (g h cap : Nat) (s : RS) (w : World) (H : RdS w g h cap s) :
    Calls Try.prog 114 #[.pointer (some ⟨g, 0, none⟩)] w fun e w' => e = .returned (.int .i64 (s.left : Int)) ∧ ∃ n, w' = w.drewN n := rleftOf g h cap s.bs s.st s.p s.ef s.ea w H

set_option maxHeartbeats 2000000 in
theorem read2_true_true (g h cap : Nat) (s : RS) (w : World) (H : RdS w g h cap s) (hb2 : ((((((startS s).take 1).2).take 6).2).got 1 == 32) = true) (hl2 : 0 < (((((((((((startS s).take 1).2).take 6).2).take 1).2).take 4).2).take 3).2).left) :
    Calls Try.prog 110 #[.agg #[], .pointer (some ⟨g, 0, none⟩)] w fun e w' => e = .returned (.agg (g2 s).cs) ∧ Only w g w' := by
  have hb : Below w.heap.size w ((w.alloc (.cells #[] 92)).alloc (.cells zcs 31)) := ((Below.refl _ w).alloc (Nat.le_refl _) _).alloc (by simp) _
  have HL : Hid (g < w.heap.size ∧ h < w.heap.size) := Lib.hid (RdS.lts H)
  have HZ : Hid (Has ((w.alloc (.cells #[] 92)).alloc (.cells zcs 31)) (w.heap.size + 1) 31 zcs) := Lib.hid (by
    have h1 := Has.new (w.alloc (.cells #[] 92)) 31 zcs
    simpa using h1)
  have HR : Hid (RdS ((w.alloc (.cells #[] 92)).alloc (.cells zcs 31)) g h cap s) := Lib.hid (Rd.below H hb)
  have HB := Lib.hid hb
  have HG : Hid (g2 s = { start 2 s with mac := (((startS s).take 1).2).got 6, has := true, ip := (((((((startS s).take 1).2).take 6).2).take 1).2).got 4, l1 := (((((((((startS s).take 1).2).take 6).2).take 1).2).take 4).2).got 3, l2 := (((((((((((startS s).take 1).2).take 6).2).take 1).2).take 4).2).take 3).2).got 3 }) := Lib.hid (by
    unfold g2
    simp only [RS.t, hb2, hl2, if_true, if_false, Bool.false_eq_true, Nat.lt_irrefl]
    try rfl)
  have hl3 : (0 : Int) < ((((((((((((startS s).take 1).2).take 6).2).take 1).2).take 4).2).take 3).2).left : Int) := by omega
  clear H hb hl2
  go_enter Try.func110, Try.ntmps110
  go_wp2_with fail
  refine (start_read g h cap s 2 _ HR.out).mono ?_
  rintro e0 w0 ⟨rfl, hr, ho⟩
  have HW0 : Hid (RB w g h cap (startS s) w0.heap.size (w.heap.size + 1) nl0 (w0.alloc (.cells zcs 31))) := Lib.hid (RB.mk1 hr (only_trans (only_below HB.out g) ho) HL.out.1 HL.out.2 (HZ.out.grown ho (by have := HL.out.1; rintro ⟨⟩; omega)) (by omega))
  have HW : Hid (RB w g h cap (startS s) w0.heap.size (w.heap.size + 1) (start 2 s) ((w0.alloc (.cells zcs 31)).setRow w0.heap.size (start 2 s).cs)) := Lib.hid (HW0.out.row _)
  clear hr ho HZ HR HB
  go_wp2_with (refine wpList_store_row rfl 31 (.tmp 5) (.tmp 7) rfl w0.heap.size (start 2 s).cs rfl rfl 31 zcs HW0.out.box (NL.fit _) rfl (NL.one _) ?_)
  clear HW0
  refine (rbytes g h cap _ _ HW.out.rd 1).mono ?_
  rintro e1 w1 ⟨⟨v1, rfl, hv1⟩, hr, ho⟩
  have HX := Lib.hid (HW.out.call hr ho)
  clear hr ho HW hv1
  have HW := HX
  clear HX
  go_wp2_with fail
  refine (rU6 g h cap _ _ HW.out.rd).mono ?_
  rintro e2 w2 ⟨rfl, hr, ho⟩
  have HX := Lib.hid (HW.out.call hr ho)
  clear hr ho HW
  have c := HX.out.box.n13
  have f := HX.out.box.free 13
  have HW := Lib.hid (HX.out.set 13 (.int .u64 ((((startS s).take 1).2).got 6)) _ (set_mac _ _))
  go_wp2_with fail
  clear c f HX
  refine (rU1 g h cap _ _ HW.out.rd).mono ?_
  rintro e3 w3 ⟨rfl, hr, ho⟩
  have HX := Lib.hid (HW.out.call hr ho)
  clear hr ho HW
  have c := HX.out.box.n15
  have f := HX.out.box.free 15
  have HW := Lib.hid (HX.out.set 15 (.bool true) _ (set_has _ _))
  go_wp2_with fail
  clear c f HX
  refine (rU4 g h cap _ _ HW.out.rd).mono ?_
  rintro e4 w4 ⟨rfl, hr, ho⟩
  have hm := in4 (got_bd HW.out.rd 4)
  have HX := Lib.hid (HW.out.call hr ho)
  clear hr ho HW
  have c := HX.out.box.n14
  have f := HX.out.box.free 14
  have HW := Lib.hid (HX.out.set 14 (.int .u32 ((((((((startS s).take 1).2).take 6).2).take 1).2).got 4)) _ (set_ip _ _))
  go_wp2_with fail
  clear c f HX hm
  refine (rU3 g h cap _ _ HW.out.rd).mono ?_
  rintro e5 w5 ⟨rfl, hr, ho⟩
  have hm := in3 (got_bd HW.out.rd 3)
  have HX := Lib.hid (HW.out.call hr ho)
  clear hr ho HW
  have c := HX.out.box.n19
  have f := HX.out.box.free 19
  have HW := Lib.hid (HX.out.set 19 (.int .u32 ((((((((((startS s).take 1).2).take 6).2).take 1).2).take 4).2).got 3)) _ (set_l1 _ _))
  go_wp2_with fail
  clear c f HX hm
  refine (rleftS g h cap _ _ HW.out.rd).mono ?_
  rintro e6 w6 ⟨rfl, n, hn⟩
  have HX := Lib.hid (HW.out.drew hn)
  clear hn HW
  have HW := HX
  clear HX
  go_wp2_with fail
  refine (rU3 g h cap _ _ HW.out.rd).mono ?_
  rintro e7 w7 ⟨rfl, hr, ho⟩
  have hm := in3 (got_bd HW.out.rd 3)
  have HX := Lib.hid (HW.out.call hr ho)
  clear hr ho HW
  have c := HX.out.box.n20
  have f := HX.out.box.free 20
  have HW := Lib.hid (HX.out.set 20 (.int .u32 ((((((((((((startS s).take 1).2).take 6).2).take 1).2).take 4).2).take 3).2).got 3)) _ (set_l2 _ _))
  go_wp2_with (first
    | (refine wpList_load_row rfl 31 (.tmp 5) rfl (w0.heap.size) rfl 31 _ (0, 0) _ HW.out.box Try.underlying31 rfl (NL.fit _) ?_)
    | (refine wpList_store_row rfl 31 (.tmp 4) (.tmp 34) rfl (w.heap.size + 1) _ rfl rfl 31 zcs HW.out.zer (NL.fit _) rfl (NL.one _) ?_))
  clear c f HX hm
  have HE := Lib.hid (RB.end_ HW.out)
  refine bodyPost_ret (v := .agg (g2 s).cs) ?_ rfl ⟨rfl, HE.out.2⟩
  rw [HG.out]
  exact results_cell_row rfl _ _ (w.heap.size + 1) 31 _ (0, 0) _ rfl (setRow_heap _ _ _ _ _ _ HW.out.zer) Try.underlying31 rfl (NL.fit _)

set_option maxHeartbeats 2000000 in
theorem read2_true_false (g h cap : Nat) (s : RS) (w : World) (H : RdS w g h cap s) (hb2 : ((((((startS s).take 1).2).take 6).2).got 1 == 32) = true) (hl2 : (((((((((((startS s).take 1).2).take 6).2).take 1).2).take 4).2).take 3).2).left = 0) :
    Calls Try.prog 110 #[.agg #[], .pointer (some ⟨g, 0, none⟩)] w fun e w' => e = .returned (.agg (g2 s).cs) ∧ Only w g w' := by
  have hb : Below w.heap.size w ((w.alloc (.cells #[] 92)).alloc (.cells zcs 31)) := ((Below.refl _ w).alloc (Nat.le_refl _) _).alloc (by simp) _
  have HL : Hid (g < w.heap.size ∧ h < w.heap.size) := Lib.hid (RdS.lts H)
  have HZ : Hid (Has ((w.alloc (.cells #[] 92)).alloc (.cells zcs 31)) (w.heap.size + 1) 31 zcs) := Lib.hid (by
    have h1 := Has.new (w.alloc (.cells #[] 92)) 31 zcs
    simpa using h1)
  have HR : Hid (RdS ((w.alloc (.cells #[] 92)).alloc (.cells zcs 31)) g h cap s) := Lib.hid (Rd.below H hb)
  have HB := Lib.hid hb
  have HG : Hid (g2 s = { start 2 s with mac := (((startS s).take 1).2).got 6, has := true, ip := (((((((startS s).take 1).2).take 6).2).take 1).2).got 4, l1 := (((((((((startS s).take 1).2).take 6).2).take 1).2).take 4).2).got 3 }) := Lib.hid (by
    unfold g2
    simp only [RS.t, hb2, hl2, if_true, if_false, Bool.false_eq_true, Nat.lt_irrefl]
    try rfl)
  have hl3 : ((((((((((((startS s).take 1).2).take 6).2).take 1).2).take 4).2).take 3).2).left : Int) = 0 := by omega
  clear H hb hl2
  go_enter Try.func110, Try.ntmps110
  go_wp2_with fail
  refine (start_read g h cap s 2 _ HR.out).mono ?_
  rintro e0 w0 ⟨rfl, hr, ho⟩
  have HW0 : Hid (RB w g h cap (startS s) w0.heap.size (w.heap.size + 1) nl0 (w0.alloc (.cells zcs 31))) := Lib.hid (RB.mk1 hr (only_trans (only_below HB.out g) ho) HL.out.1 HL.out.2 (HZ.out.grown ho (by have := HL.out.1; rintro ⟨⟩; omega)) (by omega))
  have HW : Hid (RB w g h cap (startS s) w0.heap.size (w.heap.size + 1) (start 2 s) ((w0.alloc (.cells zcs 31)).setRow w0.heap.size (start 2 s).cs)) := Lib.hid (HW0.out.row _)
  clear hr ho HZ HR HB
  go_wp2_with (refine wpList_store_row rfl 31 (.tmp 5) (.tmp 7) rfl w0.heap.size (start 2 s).cs rfl rfl 31 zcs HW0.out.box (NL.fit _) rfl (NL.one _) ?_)
  clear HW0
  refine (rbytes g h cap _ _ HW.out.rd 1).mono ?_
  rintro e1 w1 ⟨⟨v1, rfl, hv1⟩, hr, ho⟩
  have HX := Lib.hid (HW.out.call hr ho)
  clear hr ho HW hv1
  have HW := HX
  clear HX
  go_wp2_with fail
  refine (rU6 g h cap _ _ HW.out.rd).mono ?_
  rintro e2 w2 ⟨rfl, hr, ho⟩
  have HX := Lib.hid (HW.out.call hr ho)
  clear hr ho HW
  have c := HX.out.box.n13
  have f := HX.out.box.free 13
  have HW := Lib.hid (HX.out.set 13 (.int .u64 ((((startS s).take 1).2).got 6)) _ (set_mac _ _))
  go_wp2_with fail
  clear c f HX
  refine (rU1 g h cap _ _ HW.out.rd).mono ?_
  rintro e3 w3 ⟨rfl, hr, ho⟩
  have HX := Lib.hid (HW.out.call hr ho)
  clear hr ho HW
  have c := HX.out.box.n15
  have f := HX.out.box.free 15
  have HW := Lib.hid (HX.out.set 15 (.bool true) _ (set_has _ _))
  go_wp2_with fail
  clear c f HX
  refine (rU4 g h cap _ _ HW.out.rd).mono ?_
  rintro e4 w4 ⟨rfl, hr, ho⟩
  have hm := in4 (got_bd HW.out.rd 4)
  have HX := Lib.hid (HW.out.call hr ho)
  clear hr ho HW
  have c := HX.out.box.n14
  have f := HX.out.box.free 14
  have HW := Lib.hid (HX.out.set 14 (.int .u32 ((((((((startS s).take 1).2).take 6).2).take 1).2).got 4)) _ (set_ip _ _))
  go_wp2_with fail
  clear c f HX hm
  refine (rU3 g h cap _ _ HW.out.rd).mono ?_
  rintro e5 w5 ⟨rfl, hr, ho⟩
  have hm := in3 (got_bd HW.out.rd 3)
  have HX := Lib.hid (HW.out.call hr ho)
  clear hr ho HW
  have c := HX.out.box.n19
  have f := HX.out.box.free 19
  have HW := Lib.hid (HX.out.set 19 (.int .u32 ((((((((((startS s).take 1).2).take 6).2).take 1).2).take 4).2).got 3)) _ (set_l1 _ _))
  go_wp2_with fail
  clear c f HX hm
  refine (rleftS g h cap _ _ HW.out.rd).mono ?_
  rintro e6 w6 ⟨rfl, n, hn⟩
  have HX := Lib.hid (HW.out.drew hn)
  clear hn HW
  have HW := HX
  clear HX
  go_wp2_with (first
    | (refine wpList_load_row rfl 31 (.tmp 5) rfl (w0.heap.size) rfl 31 _ (0, 0) _ HW.out.box Try.underlying31 rfl (NL.fit _) ?_)
    | (refine wpList_store_row rfl 31 (.tmp 4) (.tmp 34) rfl (w.heap.size + 1) _ rfl rfl 31 zcs HW.out.zer (NL.fit _) rfl (NL.one _) ?_))
  have HE := Lib.hid (RB.end_ HW.out)
  refine bodyPost_ret (v := .agg (g2 s).cs) ?_ rfl ⟨rfl, HE.out.2⟩
  rw [HG.out]
  exact results_cell_row rfl _ _ (w.heap.size + 1) 31 _ (0, 0) _ rfl (setRow_heap _ _ _ _ _ _ HW.out.zer) Try.underlying31 rfl (NL.fit _)

set_option maxHeartbeats 2000000 in
theorem read2_false_true (g h cap : Nat) (s : RS) (w : World) (H : RdS w g h cap s) (hb2 : ((((((startS s).take 1).2).take 6).2).got 1 == 32) = false) (hl2 : 0 < (((((((((startS s).take 1).2).take 6).2).take 1).2).take 3).2).left) :
    Calls Try.prog 110 #[.agg #[], .pointer (some ⟨g, 0, none⟩)] w fun e w' => e = .returned (.agg (g2 s).cs) ∧ Only w g w' := by
  have hb : Below w.heap.size w ((w.alloc (.cells #[] 92)).alloc (.cells zcs 31)) := ((Below.refl _ w).alloc (Nat.le_refl _) _).alloc (by simp) _
  have HL : Hid (g < w.heap.size ∧ h < w.heap.size) := Lib.hid (RdS.lts H)
  have HZ : Hid (Has ((w.alloc (.cells #[] 92)).alloc (.cells zcs 31)) (w.heap.size + 1) 31 zcs) := Lib.hid (by
    have h1 := Has.new (w.alloc (.cells #[] 92)) 31 zcs
    simpa using h1)
  have HR : Hid (RdS ((w.alloc (.cells #[] 92)).alloc (.cells zcs 31)) g h cap s) := Lib.hid (Rd.below H hb)
  have HB := Lib.hid hb
  have HG : Hid (g2 s = { start 2 s with mac := (((startS s).take 1).2).got 6, has := false, l1 := (((((((startS s).take 1).2).take 6).2).take 1).2).got 3, l2 := (((((((((startS s).take 1).2).take 6).2).take 1).2).take 3).2).got 3 }) := Lib.hid (by
    unfold g2
    simp only [RS.t, hb2, hl2, if_true, if_false, Bool.false_eq_true, Nat.lt_irrefl]
    try rfl)
  have hl3 : (0 : Int) < ((((((((((startS s).take 1).2).take 6).2).take 1).2).take 3).2).left : Int) := by omega
  clear H hb hl2
  go_enter Try.func110, Try.ntmps110
  go_wp2_with fail
  refine (start_read g h cap s 2 _ HR.out).mono ?_
  rintro e0 w0 ⟨rfl, hr, ho⟩
  have HW0 : Hid (RB w g h cap (startS s) w0.heap.size (w.heap.size + 1) nl0 (w0.alloc (.cells zcs 31))) := Lib.hid (RB.mk1 hr (only_trans (only_below HB.out g) ho) HL.out.1 HL.out.2 (HZ.out.grown ho (by have := HL.out.1; rintro ⟨⟩; omega)) (by omega))
  have HW : Hid (RB w g h cap (startS s) w0.heap.size (w.heap.size + 1) (start 2 s) ((w0.alloc (.cells zcs 31)).setRow w0.heap.size (start 2 s).cs)) := Lib.hid (HW0.out.row _)
  clear hr ho HZ HR HB
  go_wp2_with (refine wpList_store_row rfl 31 (.tmp 5) (.tmp 7) rfl w0.heap.size (start 2 s).cs rfl rfl 31 zcs HW0.out.box (NL.fit _) rfl (NL.one _) ?_)
  clear HW0
  refine (rbytes g h cap _ _ HW.out.rd 1).mono ?_
  rintro e1 w1 ⟨⟨v1, rfl, hv1⟩, hr, ho⟩
  have HX := Lib.hid (HW.out.call hr ho)
  clear hr ho HW hv1
  have HW := HX
  clear HX
  go_wp2_with fail
  refine (rU6 g h cap _ _ HW.out.rd).mono ?_
  rintro e2 w2 ⟨rfl, hr, ho⟩
  have HX := Lib.hid (HW.out.call hr ho)
  clear hr ho HW
  have c := HX.out.box.n13
  have f := HX.out.box.free 13
  have HW := Lib.hid (HX.out.set 13 (.int .u64 ((((startS s).take 1).2).got 6)) _ (set_mac _ _))
  go_wp2_with fail
  clear c f HX
  refine (rU1 g h cap _ _ HW.out.rd).mono ?_
  rintro e3 w3 ⟨rfl, hr, ho⟩
  have HX := Lib.hid (HW.out.call hr ho)
  clear hr ho HW
  have c := HX.out.box.n15
  have f := HX.out.box.free 15
  have HW := Lib.hid (HX.out.set 15 (.bool false) _ (set_has _ _))
  go_wp2_with fail
  clear c f HX
  refine (rU3 g h cap _ _ HW.out.rd).mono ?_
  rintro e4 w4 ⟨rfl, hr, ho⟩
  have hm := in3 (got_bd HW.out.rd 3)
  have HX := Lib.hid (HW.out.call hr ho)
  clear hr ho HW
  have c := HX.out.box.n19
  have f := HX.out.box.free 19
  have HW := Lib.hid (HX.out.set 19 (.int .u32 ((((((((startS s).take 1).2).take 6).2).take 1).2).got 3)) _ (set_l1 _ _))
  go_wp2_with fail
  clear c f HX hm
  refine (rleftS g h cap _ _ HW.out.rd).mono ?_
  rintro e5 w5 ⟨rfl, n, hn⟩
  have HX := Lib.hid (HW.out.drew hn)
  clear hn HW
  have HW := HX
  clear HX
  go_wp2_with fail
  refine (rU3 g h cap _ _ HW.out.rd).mono ?_
  rintro e6 w6 ⟨rfl, hr, ho⟩
  have hm := in3 (got_bd HW.out.rd 3)
  have HX := Lib.hid (HW.out.call hr ho)
  clear hr ho HW
  have c := HX.out.box.n20
  have f := HX.out.box.free 20
  have HW := Lib.hid (HX.out.set 20 (.int .u32 ((((((((((startS s).take 1).2).take 6).2).take 1).2).take 3).2).got 3)) _ (set_l2 _ _))
  go_wp2_with (first
    | (refine wpList_load_row rfl 31 (.tmp 5) rfl (w0.heap.size) rfl 31 _ (0, 0) _ HW.out.box Try.underlying31 rfl (NL.fit _) ?_)
    | (refine wpList_store_row rfl 31 (.tmp 4) (.tmp 34) rfl (w.heap.size + 1) _ rfl rfl 31 zcs HW.out.zer (NL.fit _) rfl (NL.one _) ?_))
  clear c f HX hm
  have HE := Lib.hid (RB.end_ HW.out)
  refine bodyPost_ret (v := .agg (g2 s).cs) ?_ rfl ⟨rfl, HE.out.2⟩
  rw [HG.out]
  exact results_cell_row rfl _ _ (w.heap.size + 1) 31 _ (0, 0) _ rfl (setRow_heap _ _ _ _ _ _ HW.out.zer) Try.underlying31 rfl (NL.fit _)

set_option maxHeartbeats 2000000 in
theorem read2_false_false (g h cap : Nat) (s : RS) (w : World) (H : RdS w g h cap s) (hb2 : ((((((startS s).take 1).2).take 6).2).got 1 == 32) = false) (hl2 : (((((((((startS s).take 1).2).take 6).2).take 1).2).take 3).2).left = 0) :
    Calls Try.prog 110 #[.agg #[], .pointer (some ⟨g, 0, none⟩)] w fun e w' => e = .returned (.agg (g2 s).cs) ∧ Only w g w' := by
  have hb : Below w.heap.size w ((w.alloc (.cells #[] 92)).alloc (.cells zcs 31)) := ((Below.refl _ w).alloc (Nat.le_refl _) _).alloc (by simp) _
  have HL : Hid (g < w.heap.size ∧ h < w.heap.size) := Lib.hid (RdS.lts H)
  have HZ : Hid (Has ((w.alloc (.cells #[] 92)).alloc (.cells zcs 31)) (w.heap.size + 1) 31 zcs) := Lib.hid (by
    have h1 := Has.new (w.alloc (.cells #[] 92)) 31 zcs
    simpa using h1)
  have HR : Hid (RdS ((w.alloc (.cells #[] 92)).alloc (.cells zcs 31)) g h cap s) := Lib.hid (Rd.below H hb)
  have HB := Lib.hid hb
  have HG : Hid (g2 s = { start 2 s with mac := (((startS s).take 1).2).got 6, has := false, l1 := (((((((startS s).take 1).2).take 6).2).take 1).2).got 3 }) := Lib.hid (by
    unfold g2
    simp only [RS.t, hb2, hl2, if_true, if_false, Bool.false_eq_true, Nat.lt_irrefl]
    try rfl)
  have hl3 : ((((((((((startS s).take 1).2).take 6).2).take 1).2).take 3).2).left : Int) = 0 := by omega
  clear H hb hl2
  go_enter Try.func110, Try.ntmps110
  go_wp2_with fail
  refine (start_read g h cap s 2 _ HR.out).mono ?_
  rintro e0 w0 ⟨rfl, hr, ho⟩
  have HW0 : Hid (RB w g h cap (startS s) w0.heap.size (w.heap.size + 1) nl0 (w0.alloc (.cells zcs 31))) := Lib.hid (RB.mk1 hr (only_trans (only_below HB.out g) ho) HL.out.1 HL.out.2 (HZ.out.grown ho (by have := HL.out.1; rintro ⟨⟩; omega)) (by omega))
  have HW : Hid (RB w g h cap (startS s) w0.heap.size (w.heap.size + 1) (start 2 s) ((w0.alloc (.cells zcs 31)).setRow w0.heap.size (start 2 s).cs)) := Lib.hid (HW0.out.row _)
  clear hr ho HZ HR HB
  go_wp2_with (refine wpList_store_row rfl 31 (.tmp 5) (.tmp 7) rfl w0.heap.size (start 2 s).cs rfl rfl 31 zcs HW0.out.box (NL.fit _) rfl (NL.one _) ?_)
  clear HW0
  refine (rbytes g h cap _ _ HW.out.rd 1).mono ?_
  rintro e1 w1 ⟨⟨v1, rfl, hv1⟩, hr, ho⟩
  have HX := Lib.hid (HW.out.call hr ho)
  clear hr ho HW hv1
  have HW := HX
  clear HX
  go_wp2_with fail
  refine (rU6 g h cap _ _ HW.out.rd).mono ?_
  rintro e2 w2 ⟨rfl, hr, ho⟩
  have HX := Lib.hid (HW.out.call hr ho)
  clear hr ho HW
  have c := HX.out.box.n13
  have f := HX.out.box.free 13
  have HW := Lib.hid (HX.out.set 13 (.int .u64 ((((startS s).take 1).2).got 6)) _ (set_mac _ _))
  go_wp2_with fail
  clear c f HX
  refine (rU1 g h cap _ _ HW.out.rd).mono ?_
  rintro e3 w3 ⟨rfl, hr, ho⟩
  have HX := Lib.hid (HW.out.call hr ho)
  clear hr ho HW
  have c := HX.out.box.n15
  have f := HX.out.box.free 15
  have HW := Lib.hid (HX.out.set 15 (.bool false) _ (set_has _ _))
  go_wp2_with fail
  clear c f HX
  refine (rU3 g h cap _ _ HW.out.rd).mono ?_
  rintro e4 w4 ⟨rfl, hr, ho⟩
  have hm := in3 (got_bd HW.out.rd 3)
  have HX := Lib.hid (HW.out.call hr ho)
  clear hr ho HW
  have c := HX.out.box.n19
  have f := HX.out.box.free 19
  have HW := Lib.hid (HX.out.set 19 (.int .u32 ((((((((startS s).take 1).2).take 6).2).take 1).2).got 3)) _ (set_l1 _ _))
  go_wp2_with fail
  clear c f HX hm
  refine (rleftS g h cap _ _ HW.out.rd).mono ?_
  rintro e5 w5 ⟨rfl, n, hn⟩
  have HX := Lib.hid (HW.out.drew hn)
  clear hn HW
  have HW := HX
  clear HX
  go_wp2_with (first
    | (refine wpList_load_row rfl 31 (.tmp 5) rfl (w0.heap.size) rfl 31 _ (0, 0) _ HW.out.box Try.underlying31 rfl (NL.fit _) ?_)
    | (refine wpList_store_row rfl 31 (.tmp 4) (.tmp 34) rfl (w.heap.size + 1) _ rfl rfl 31 zcs HW.out.zer (NL.fit _) rfl (NL.one _) ?_))
  have HE := Lib.hid (RB.end_ HW.out)
  refine bodyPost_ret (v := .agg (g2 s).cs) ?_ rfl ⟨rfl, HE.out.2⟩
  rw [HG.out]
  exact results_cell_row rfl _ _ (w.heap.size + 1) 31 _ (0, 0) _ rfl (setRow_heap _ _ _ _ _ _ HW.out.zer) Try.underlying31 rfl (NL.fit _)

theorem read2 (g h cap : Nat) (s : RS) (w : World) (H : RdS w g h cap s) :
    Calls Try.prog 110 #[.agg #[], .pointer (some ⟨g, 0, none⟩)] w fun e w' => e = .returned (.agg (g2 s).cs) ∧ Only w g w' := by
  cases hb : ((((((startS s).take 1).2).take 6).2).got 1 == 32) with
  | true =>
    by_cases hl : 0 < (((((((((startS s).take 1).2).take 6).2).take 1).2).take 4).2.take 3).2.left
    · exact read2_true_true g h cap s w H hb hl
    · exact read2_true_false g h cap s w H hb (by omega)
  | false =>
    by_cases hl : 0 < ((((((((startS s).take 1).2).take 6).2).take 1).2).take 3).2.left
    · exact read2_false_true g h cap s w H hb hl
    · exact read2_false_false g h cap s w H hb (by omega)

/-- The function of a kind's read. -/
def frd : Nat → FuncId
  | 1 => 93
  | 2 => 110
  | 3 => 118
  | 4 => 121
  | _ => 124
theorem read_any (k : Nat) (h1 : 1 ≤ k) (h5 : k ≤ 5) (g h cap : Nat) (s : RS) (w : World) (H : RdS w g h cap s) :
    Calls Try.prog (frd k) #[.agg #[], .pointer (some ⟨g, 0, none⟩)] w fun e w' => e = .returned (.agg (gss k s).cs) ∧ Only w g w' := by
  have h : k = 1 ∨ k = 2 ∨ k = 3 ∨ k = 4 ∨ k = 5 := by omega
  rcases h with rfl | rfl | rfl | rfl | rfl
  · exact read1 _ _ _ s w H
  · exact read2 _ _ _ s w H
  · exact read3 _ _ _ s w H
  · exact read4 _ _ _ s w H
  · exact read5 _ _ _ s w H
theorem meth_read (k : Nat) (h1 : 1 ≤ k) (h5 : k ≤ 5) (n : Nat) (w : World) : (method (n + 1) (tk k) (.agg #[]) "leafmesh/nlri.read").run Try.prog w = .ok (frd k, .agg #[]) w := by
  have q1 : (method (n + 1) (tk 1) (.agg #[]) "leafmesh/nlri.read").run Try.prog w = .ok (frd 1, .agg #[]) w := by kernel_rfl
  have q2 : (method (n + 1) (tk 2) (.agg #[]) "leafmesh/nlri.read").run Try.prog w = .ok (frd 2, .agg #[]) w := by kernel_rfl
  have q3 : (method (n + 1) (tk 3) (.agg #[]) "leafmesh/nlri.read").run Try.prog w = .ok (frd 3, .agg #[]) w := by kernel_rfl
  have q4 : (method (n + 1) (tk 4) (.agg #[]) "leafmesh/nlri.read").run Try.prog w = .ok (frd 4, .agg #[]) w := by kernel_rfl
  have q5 : (method (n + 1) (tk 5) (.agg #[]) "leafmesh/nlri.read").run Try.prog w = .ok (frd 5, .agg #[]) w := by kernel_rfl
  have h : k = 1 ∨ k = 2 ∨ k = 3 ∨ k = 4 ∨ k = 5 := by omega
  rcases h with rfl | rfl | rfl | rfl | rfl
  · exact q1
  · exact q2
  · exact q3
  · exact q4
  · exact q5
theorem call_read (k : Nat) (h1 : 1 ≤ k) (h5 : k ≤ 5) (args : Array Value) (w : World) : (callFunc (frd k) args).run Try.prog w = .ok (.enter (frd k) args) w := by
  have q1 : (callFunc (frd 1) args).run Try.prog w = .ok (.enter (frd 1) args) w := by kernel_rfl
  have q2 : (callFunc (frd 2) args).run Try.prog w = .ok (.enter (frd 2) args) w := by kernel_rfl
  have q3 : (callFunc (frd 3) args).run Try.prog w = .ok (.enter (frd 3) args) w := by kernel_rfl
  have q4 : (callFunc (frd 4) args).run Try.prog w = .ok (.enter (frd 4) args) w := by kernel_rfl
  have q5 : (callFunc (frd 5) args).run Try.prog w = .ok (.enter (frd 5) args) w := by kernel_rfl
  have h : k = 1 ∨ k = 2 ∨ k = 3 ∨ k = 4 ∨ k = 5 := by omega
  rcases h with rfl | rfl | rfl | rfl | rfl
  · exact q1
  · exact q2
  · exact q3
  · exact q4
  · exact q5

end Go.Proofs.Ythhajknmokomjaa
