/- Routes: the document's Key; written by gen_nos.py. -/
import Derived.Test.YthhajknmokomjaaZNoD
namespace Go.Proofs.Ythhajknmokomjaa
open Go.RowKit Go.Maps
set_option linter.unusedVariables false
set_option linter.unusedSimpArgs false
set_option maxRecDepth 100000

theorem rkey2_cs (x : NL) : sets x.key0.cs 2 z10 = x.key2.cs := by simp only [Go.Proofs.Ythhajknmokomjaa.sets, NL.cs, NL.key5, NL.key2, NL.key0, List.setIfInBounds_toArray, List.set_cons_zero, List.set_cons_succ]
theorem rkey5_cs (x : NL) : x.key2.cs.setIfInBounds 18 (.int .u32 0) = x.key5.cs := by simp only [Go.Proofs.Ythhajknmokomjaa.sets, NL.cs, NL.key5, NL.key2, NL.key0, List.setIfInBounds_toArray, List.set_cons_zero, List.set_cons_succ]

set_option maxHeartbeats 1000000 in
theorem rkey_5 (x : NL) (hk : x.k = 5) (w : World) : Calls Try.prog 13 #[.agg x.cs] w fun e w' => e = .returned (.agg x.key5.cs) ∧ Below w.heap.size w w' := by
  have HX2 : Hid (Has ((w.alloc (.cells x.cs 31)).alloc (.cells zcs 31)) w.heap.size 31 x.cs) := Lib.hid ((Has.new _ _ _).below ((Below.refl _ _).alloc (Nat.le_refl _) _))
  have HZ2 : Hid (Has ((w.alloc (.cells x.cs 31)).alloc (.cells zcs 31)) (w.heap.size + 1) 31 zcs) := Lib.hid (by
    have h := Has.new (w.alloc (.cells x.cs 31)) 31 zcs
    simpa using h)
  have HB2 : Hid (Below w.heap.size w ((w.alloc (.cells x.cs 31)).alloc (.cells zcs 31))) := Lib.hid (((Below.refl _ w).alloc (Nat.le_refl _) _).alloc (by simp) _)
  have HK := Lib.hid hk
  clear hk
  go_enter Try.func13, Try.ntmps13
  go_upto_region 1 with fail
  generalize ((w.alloc (.cells x.cs 31)).alloc (.cells zcs 31)) = W2 at *
  have c19 : W2.cell? ⟨w.heap.size, 19, none⟩ = some (.int .u32 x.l1) := HX2.out.cell 19
  have c20 : W2.cell? ⟨w.heap.size, 20, none⟩ = some (.int .u32 x.l2) := HX2.out.cell 20
  have f19 := HX2.out.free 19
  have f20 := HX2.out.free 20
  have HX3 : Hid (Has ((W2.setCell ⟨w.heap.size, 19, none⟩ (.int .u32 0)).setCell ⟨w.heap.size, 20, none⟩ (.int .u32 0)) w.heap.size 31 x.key0.cs) := Lib.hid (by
    have h' := (HX2.out.set_ 19 (.int .u32 0)).set_ 20 (.int .u32 0)
    rw [key0_cs] at h'
    exact h')
  have HZ3 := Lib.hid ((HZ2.out.far1 (g := w.heap.size) (i := 19) (v := .int .u32 0) (by omega)).far1 (g := w.heap.size) (i := 20) (v := .int .u32 0) (by omega))
  have HB3 := Lib.hid ((HB2.out.setCell (p := ⟨w.heap.size, 19, none⟩) (Nat.le_refl _) (.int .u32 0)).setCell (p := ⟨w.heap.size, 20, none⟩) (Nat.le_refl _) (.int .u32 0))
  go_upto_region 2 with fail
  clear c19 c20 f19 f20 HX2 HZ2 HB2
  generalize ((W2.setCell ⟨w.heap.size, 19, none⟩ (.int .u32 0)).setCell ⟨w.heap.size, 20, none⟩ (.int .u32 0)) = W3 at *
  have c0 : W3.cell? ⟨w.heap.size, 0, none⟩ = some (.int .i64 5) := HX3.out.n0.trans (congrArg (fun z => some (Value.int .i64 z)) HK.out)
  go_wp2_with (first
    | (refine wpList_store_mid rfl 24 (.tmp 14) (.tmp 13) rfl w.heap.size 2 #[.int .u8 0, .int .u8 0, .int .u8 0, .int .u8 0, .int .u8 0, .int .u8 0, .int .u8 0, .int .u8 0, .int .u8 0, .int .u8 0] rfl rfl (HX3.out.there 2 10 (by simp [NL.size])) (by kernel_rfl) (by simp [Value.oneCell']) ?_
       have h4 := Has.sets z10 2 _ _ HX3.out
       rw [rkey2_cs] at h4
       have hz4 := Has.far (g := w.heap.size) (by omega) z10 2 _ HZ3.out
       have hb4 := Below.sets (Nat.le_refl _) z10 2 _ HB3.out
       change wpList _ _ _ _ _ (W3.setCells w.heap.size 2 z10)
       generalize W3.setCells w.heap.size 2 z10 = W4 at h4 hz4 hb4 ⊢
       have c0 : W4.cell? ⟨w.heap.size, 0, none⟩ = some (.int .i64 5) := h4.n0.trans (congrArg (fun z => some (Value.int .i64 z)) HK.out)
       have c18 : W4.cell? ⟨w.heap.size, 18, none⟩ = some (.int .u32 x.gw) := h4.n18
       have f18 := h4.free 18
       have HF := Lib.hid (h4.set_ 18 (.int .u32 0))
       rw [rkey5_cs] at HF
       have HZ := Lib.hid (hz4.far1 (g := w.heap.size) (i := 18) (v := .int .u32 0) (by omega))
       have HB := Lib.hid (hb4.setCell (p := ⟨w.heap.size, 18, none⟩) (Nat.le_refl _) (.int .u32 0))
       clear h4 hz4 hb4)
    | (refine wpList_load_row rfl 31 (.tmp 1) rfl w.heap.size rfl 31 x.key5.cs (0, 0) _ HF.out Try.underlying31 rfl x.key5.fit ?_)
    | (refine wpList_store_row rfl 31 (.tmp 2) (.tmp 19) rfl (w.heap.size + 1) x.key5.cs rfl rfl 31 zcs HZ.out x.key5.fit rfl x.key5.one ?_))
  exact bodyPost_ret (v := .agg x.key5.cs) (results_cell_row rfl _ _ (w.heap.size + 1) 31 x.key5.cs (0, 0) _ rfl (setRow_heap _ _ _ _ _ _ HZ.out) Try.underlying31 rfl x.key5.fit) rfl ⟨rfl, below_only HB.out (Only.row _) (by omega) HB.out.size⟩

set_option maxHeartbeats 1000000 in
theorem rkey_2 (x : NL) (hk : x.k = 2) (w : World) : Calls Try.prog 13 #[.agg x.cs] w fun e w' => e = .returned (.agg x.key2.cs) ∧ Below w.heap.size w w' := by
  have HX2 : Hid (Has ((w.alloc (.cells x.cs 31)).alloc (.cells zcs 31)) w.heap.size 31 x.cs) := Lib.hid ((Has.new _ _ _).below ((Below.refl _ _).alloc (Nat.le_refl _) _))
  have HZ2 : Hid (Has ((w.alloc (.cells x.cs 31)).alloc (.cells zcs 31)) (w.heap.size + 1) 31 zcs) := Lib.hid (by
    have h := Has.new (w.alloc (.cells x.cs 31)) 31 zcs
    simpa using h)
  have HB2 : Hid (Below w.heap.size w ((w.alloc (.cells x.cs 31)).alloc (.cells zcs 31))) := Lib.hid (((Below.refl _ w).alloc (Nat.le_refl _) _).alloc (by simp) _)
  have HK := Lib.hid hk
  clear hk
  go_enter Try.func13, Try.ntmps13
  go_upto_region 1 with fail
  generalize ((w.alloc (.cells x.cs 31)).alloc (.cells zcs 31)) = W2 at *
  have c19 : W2.cell? ⟨w.heap.size, 19, none⟩ = some (.int .u32 x.l1) := HX2.out.cell 19
  have c20 : W2.cell? ⟨w.heap.size, 20, none⟩ = some (.int .u32 x.l2) := HX2.out.cell 20
  have f19 := HX2.out.free 19
  have f20 := HX2.out.free 20
  have HX3 : Hid (Has ((W2.setCell ⟨w.heap.size, 19, none⟩ (.int .u32 0)).setCell ⟨w.heap.size, 20, none⟩ (.int .u32 0)) w.heap.size 31 x.key0.cs) := Lib.hid (by
    have h' := (HX2.out.set_ 19 (.int .u32 0)).set_ 20 (.int .u32 0)
    rw [key0_cs] at h'
    exact h')
  have HZ3 := Lib.hid ((HZ2.out.far1 (g := w.heap.size) (i := 19) (v := .int .u32 0) (by omega)).far1 (g := w.heap.size) (i := 20) (v := .int .u32 0) (by omega))
  have HB3 := Lib.hid ((HB2.out.setCell (p := ⟨w.heap.size, 19, none⟩) (Nat.le_refl _) (.int .u32 0)).setCell (p := ⟨w.heap.size, 20, none⟩) (Nat.le_refl _) (.int .u32 0))
  go_upto_region 2 with fail
  clear c19 c20 f19 f20 HX2 HZ2 HB2
  generalize ((W2.setCell ⟨w.heap.size, 19, none⟩ (.int .u32 0)).setCell ⟨w.heap.size, 20, none⟩ (.int .u32 0)) = W3 at *
  have c0 : W3.cell? ⟨w.heap.size, 0, none⟩ = some (.int .i64 2) := HX3.out.n0.trans (congrArg (fun z => some (Value.int .i64 z)) HK.out)
  go_wp2_with (first
    | (refine wpList_store_mid rfl 24 (.tmp 14) (.tmp 13) rfl w.heap.size 2 #[.int .u8 0, .int .u8 0, .int .u8 0, .int .u8 0, .int .u8 0, .int .u8 0, .int .u8 0, .int .u8 0, .int .u8 0, .int .u8 0] rfl rfl (HX3.out.there 2 10 (by simp [NL.size])) (by kernel_rfl) (by simp [Value.oneCell']) ?_
       have h4 := Has.sets z10 2 _ _ HX3.out
       rw [rkey2_cs] at h4
       have hz4 := Has.far (g := w.heap.size) (by omega) z10 2 _ HZ3.out
       have hb4 := Below.sets (Nat.le_refl _) z10 2 _ HB3.out
       change wpList _ _ _ _ _ (W3.setCells w.heap.size 2 z10)
       generalize W3.setCells w.heap.size 2 z10 = W4 at h4 hz4 hb4 ⊢
       have c0 : W4.cell? ⟨w.heap.size, 0, none⟩ = some (.int .i64 2) := h4.n0.trans (congrArg (fun z => some (Value.int .i64 z)) HK.out)
       have c18 : W4.cell? ⟨w.heap.size, 18, none⟩ = some (.int .u32 x.gw) := h4.n18
       have f18 := h4.free 18
       have HF := Lib.hid h4
       skip
       have HZ := Lib.hid hz4
       have HB := Lib.hid hb4
       clear h4 hz4 hb4)
    | (refine wpList_load_row rfl 31 (.tmp 1) rfl w.heap.size rfl 31 x.key2.cs (0, 0) _ HF.out Try.underlying31 rfl x.key2.fit ?_)
    | (refine wpList_store_row rfl 31 (.tmp 2) (.tmp 19) rfl (w.heap.size + 1) x.key2.cs rfl rfl 31 zcs HZ.out x.key2.fit rfl x.key2.one ?_))
  exact bodyPost_ret (v := .agg x.key2.cs) (results_cell_row rfl _ _ (w.heap.size + 1) 31 x.key2.cs (0, 0) _ rfl (setRow_heap _ _ _ _ _ _ HZ.out) Try.underlying31 rfl x.key2.fit) rfl ⟨rfl, below_only HB.out (Only.row _) (by omega) HB.out.size⟩

set_option maxHeartbeats 1000000 in
theorem rkey_0 (x : NL) (h5 : x.k ≠ 5) (h2 : x.k ≠ 2) (w : World) : Calls Try.prog 13 #[.agg x.cs] w fun e w' => e = .returned (.agg x.key0.cs) ∧ Below w.heap.size w w' := by
  have HX2 : Hid (Has ((w.alloc (.cells x.cs 31)).alloc (.cells zcs 31)) w.heap.size 31 x.cs) := Lib.hid ((Has.new _ _ _).below ((Below.refl _ _).alloc (Nat.le_refl _) _))
  have HZ2 : Hid (Has ((w.alloc (.cells x.cs 31)).alloc (.cells zcs 31)) (w.heap.size + 1) 31 zcs) := Lib.hid (by
    have h := Has.new (w.alloc (.cells x.cs 31)) 31 zcs
    simpa using h)
  have HB2 : Hid (Below w.heap.size w ((w.alloc (.cells x.cs 31)).alloc (.cells zcs 31))) := Lib.hid (((Below.refl _ w).alloc (Nat.le_refl _) _).alloc (by simp) _)
  have hk5 : (x.k == 5) = false := by simpa using h5
  have hk2 : (x.k == 2) = false := by simpa using h2
  clear h5 h2
  go_enter Try.func13, Try.ntmps13
  go_upto_region 1 with fail
  generalize ((w.alloc (.cells x.cs 31)).alloc (.cells zcs 31)) = W2 at *
  have c19 : W2.cell? ⟨w.heap.size, 19, none⟩ = some (.int .u32 x.l1) := HX2.out.cell 19
  have c20 : W2.cell? ⟨w.heap.size, 20, none⟩ = some (.int .u32 x.l2) := HX2.out.cell 20
  have f19 := HX2.out.free 19
  have f20 := HX2.out.free 20
  have HX3 : Hid (Has ((W2.setCell ⟨w.heap.size, 19, none⟩ (.int .u32 0)).setCell ⟨w.heap.size, 20, none⟩ (.int .u32 0)) w.heap.size 31 x.key0.cs) := Lib.hid (by
    have h' := (HX2.out.set_ 19 (.int .u32 0)).set_ 20 (.int .u32 0)
    rw [key0_cs] at h'
    exact h')
  have HZ3 := Lib.hid ((HZ2.out.far1 (g := w.heap.size) (i := 19) (v := .int .u32 0) (by omega)).far1 (g := w.heap.size) (i := 20) (v := .int .u32 0) (by omega))
  have HB3 := Lib.hid ((HB2.out.setCell (p := ⟨w.heap.size, 19, none⟩) (Nat.le_refl _) (.int .u32 0)).setCell (p := ⟨w.heap.size, 20, none⟩) (Nat.le_refl _) (.int .u32 0))
  go_upto_region 2 with fail
  clear c19 c20 f19 f20 HX2 HZ2 HB2
  generalize ((W2.setCell ⟨w.heap.size, 19, none⟩ (.int .u32 0)).setCell ⟨w.heap.size, 20, none⟩ (.int .u32 0)) = W3 at *
  have c0 : W3.cell? ⟨w.heap.size, 0, none⟩ = some (.int .i64 x.k) := HX3.out.n0
  have HF := HX3
  have HZ := HZ3
  have HB := HB3
  go_wp2_with (first
    | (refine wpList_load_row rfl 31 (.tmp 1) rfl w.heap.size rfl 31 x.key0.cs (0, 0) _ HF.out Try.underlying31 rfl x.key0.fit ?_)
    | (refine wpList_store_row rfl 31 (.tmp 2) (.tmp 19) rfl (w.heap.size + 1) x.key0.cs rfl rfl 31 zcs HZ.out x.key0.fit rfl x.key0.one ?_))
  exact bodyPost_ret (v := .agg x.key0.cs) (results_cell_row rfl _ _ (w.heap.size + 1) 31 x.key0.cs (0, 0) _ rfl (setRow_heap _ _ _ _ _ _ HZ.out) Try.underlying31 rfl x.key0.fit) rfl ⟨rfl, below_only HB.out (Only.row _) (by omega) HB.out.size⟩

theorem rkey_any (x : NL) (w : World) : Calls Try.prog 13 #[.agg x.cs] w fun e w' => e = .returned (.agg x.key.cs) ∧ Below w.heap.size w w' := by
  unfold NL.key
  by_cases h5 : x.k = 5
  · rw [if_pos h5]; exact rkey_5 x h5 w
  · rw [if_neg h5]
    by_cases h2 : x.k = 2
    · rw [if_pos h2]; exact rkey_2 x h2 w
    · rw [if_neg h2]; exact rkey_0 x h5 h2 w

end Go.Proofs.Ythhajknmokomjaa
