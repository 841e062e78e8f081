/- Routes: Key; written by gen_nod.py. -/
import Derived.Test.YthhajknmokomjaaZNlC
namespace Go.Proofs.Ythhajknmokomjaa
open Go.RowKit Go.Maps
set_option linter.unusedVariables false
set_option linter.unusedSimpArgs false
set_option maxRecDepth 100000

/-- Cells, set from a place on. -/
def sets : Array Value → Nat → List Value → Array Value
  | cs, _, [] => cs
  | cs, o, v :: vs => sets (cs.setIfInBounds o v) (o + 1) vs
theorem Has.sets {g : Nat} {t : TypeId} : ∀ (vs : List Value) (o : Nat) (w : World) (cs : Array Value), Has w g t cs → Has (w.setCells g o vs) g t (Go.Proofs.Ythhajknmokomjaa.sets cs o vs)
  | [], _, _, _, h => h
  | v :: vs, o, w, cs, h => Has.sets vs (o + 1) _ _ (h.set_ o v)
theorem Below.sets {n g : Nat} {w : World} (hg : n ≤ g) : ∀ (vs : List Value) (o : Nat) (W : World), Below n w W → Below n w (W.setCells g o vs)
  | [], _, _, h => h
  | v :: vs, o, W, h => Below.sets hg vs (o + 1) _ (h.setCell (p := ⟨g, o, none⟩) hg v)
theorem Has.far {g g' : Nat} {t : TypeId} {cs : Array Value} (hne : g' ≠ g) : ∀ (vs : List Value) (o : Nat) (w : World), Has w g' t cs → Has (w.setCells g o vs) g' t cs
  | [], _, _, h => h
  | v :: vs, o, w, h => Has.far hne vs (o + 1) _ (by
      unfold Has at h ⊢
      rw [← h]
      simp [World.setCell, Array.getElem?_modify, Ne.symm hne])
theorem Has.far1 {w : World} {g g' i : Nat} {t : TypeId} {cs : Array Value} {v : Value} (h : Has w g' t cs) (hne : g' ≠ g) : Has (w.setCell ⟨g, i, none⟩ v) g' t cs := Has.far hne [v] i w h
theorem Has.there {w : World} {g : Nat} {t : TypeId} {cs : Array Value} (h : Has w g t cs) (o n : Nat) (hn : o + n ≤ cs.size) : w.there g o n := fun j hj => ⟨by rw [h.cell]; simp; omega, h.free _⟩

def NL.key5 (x : NL) : NL := ⟨x.k, x.rd, 0, 0, 0, 0, 0, 0, 0, 0, 0, 0, x.tag, x.mac, x.ip, x.has, x.pip, x.pl, 0, 0, 0⟩
def NL.key2 (x : NL) : NL := ⟨x.k, x.rd, 0, 0, 0, 0, 0, 0, 0, 0, 0, 0, x.tag, x.mac, x.ip, x.has, x.pip, x.pl, x.gw, 0, 0⟩
def NL.key0 (x : NL) : NL := ⟨x.k, x.rd, x.e0, x.e1, x.e2, x.e3, x.e4, x.e5, x.e6, x.e7, x.e8, x.e9, x.tag, x.mac, x.ip, x.has, x.pip, x.pl, x.gw, 0, 0⟩
/-- The key of a route. -/
def NL.key (x : NL) : NL := if x.k = 5 then x.key5 else if x.k = 2 then x.key2 else x.key0
abbrev z10 : List Value := [.int .u8 0, .int .u8 0, .int .u8 0, .int .u8 0, .int .u8 0, .int .u8 0, .int .u8 0, .int .u8 0, .int .u8 0, .int .u8 0]
def NL.mid5 (x : NL) : NL := ⟨x.k, x.rd, 0, 0, 0, 0, 0, 0, 0, 0, 0, 0, x.tag, x.mac, x.ip, x.has, x.pip, x.pl, 0, x.l1, x.l2⟩
def NL.mid2 (x : NL) : NL := ⟨x.k, x.rd, 0, 0, 0, 0, 0, 0, 0, 0, 0, 0, x.tag, x.mac, x.ip, x.has, x.pip, x.pl, x.gw, x.l1, x.l2⟩
theorem mid5_cs (x : NL) : sets (x.cs.setIfInBounds 18 (.int .u32 0)) 2 z10 = x.mid5.cs := by simp only [Go.Proofs.Ythhajknmokomjaa.sets, NL.cs, NL.key5, NL.key2, NL.key0, NL.mid5, NL.mid2, List.setIfInBounds_toArray, List.set_cons_zero, List.set_cons_succ]
theorem mid2_cs (x : NL) : sets x.cs 2 z10 = x.mid2.cs := by simp only [Go.Proofs.Ythhajknmokomjaa.sets, NL.cs, NL.key5, NL.key2, NL.key0, NL.mid5, NL.mid2, List.setIfInBounds_toArray, List.set_cons_zero, List.set_cons_succ]
theorem key5_cs (x : NL) : (x.mid5.cs.setIfInBounds 19 (.int .u32 0)).setIfInBounds 20 (.int .u32 0) = x.key5.cs := by simp only [Go.Proofs.Ythhajknmokomjaa.sets, NL.cs, NL.key5, NL.key2, NL.key0, NL.mid5, NL.mid2, List.setIfInBounds_toArray, List.set_cons_zero, List.set_cons_succ]
theorem key2_cs (x : NL) : (x.mid2.cs.setIfInBounds 19 (.int .u32 0)).setIfInBounds 20 (.int .u32 0) = x.key2.cs := by simp only [Go.Proofs.Ythhajknmokomjaa.sets, NL.cs, NL.key5, NL.key2, NL.key0, NL.mid5, NL.mid2, List.setIfInBounds_toArray, List.set_cons_zero, List.set_cons_succ]
theorem key0_cs (x : NL) : (x.cs.setIfInBounds 19 (.int .u32 0)).setIfInBounds 20 (.int .u32 0) = x.key0.cs := by simp only [Go.Proofs.Ythhajknmokomjaa.sets, NL.cs, NL.key5, NL.key2, NL.key0, NL.mid5, NL.mid2, List.setIfInBounds_toArray, List.set_cons_zero, List.set_cons_succ]

set_option maxHeartbeats 1000000 in
theorem key_5 (x : NL) (hk : x.k = 5) (w : World) : Calls Try.prog 12 #[.agg x.cs] w fun e w' => e = .returned (.agg x.key5.cs) ∧ Below w.heap.size w w' := by
  have HX2 : Hid (Has ((w.alloc (.cells x.cs 31)).alloc (.cells zcs 31)) w.heap.size 31 x.cs) := Lib.hid ((Has.new _ _ _).below ((Below.refl _ _).alloc (Nat.le_refl _) _))
  have HZ2 : Hid (Has ((w.alloc (.cells x.cs 31)).alloc (.cells zcs 31)) (w.heap.size + 1) 31 zcs) := Lib.hid (by
    have h := Has.new (w.alloc (.cells x.cs 31)) 31 zcs
    simpa using h)
  have HB2 : Hid (Below w.heap.size w ((w.alloc (.cells x.cs 31)).alloc (.cells zcs 31))) := Lib.hid (((Below.refl _ w).alloc (Nat.le_refl _) _).alloc (by simp) _)
  have hk0 : x.cs[0]? = some (.int .i64 5) := by rw [← hk]; rfl
  clear hk
  go_enter Try.func12, Try.ntmps12
  go_upto_region 1 with fail
  generalize ((w.alloc (.cells x.cs 31)).alloc (.cells zcs 31)) = W2 at *
  have c0 := (HX2.out.cell 0).trans hk0
  have c18 : W2.cell? ⟨w.heap.size, 18, none⟩ = some (.int .u32 x.gw) := HX2.out.cell 18
  have c19 : W2.cell? ⟨w.heap.size, 19, none⟩ = some (.int .u32 x.l1) := HX2.out.cell 19
  have c20 : W2.cell? ⟨w.heap.size, 20, none⟩ = some (.int .u32 x.l2) := HX2.out.cell 20
  have f18 := HX2.out.free 18
  have f19 := HX2.out.free 19
  have f20 := HX2.out.free 20
  have HXm : Hid (Has (W2.setCell ⟨w.heap.size, 18, none⟩ (.int .u32 0)) w.heap.size 31 (x.cs.setIfInBounds 18 (.int .u32 0))) := Lib.hid (HX2.out.set_ 18 _)
  have HZm : Hid (Has (W2.setCell ⟨w.heap.size, 18, none⟩ (.int .u32 0)) (w.heap.size + 1) 31 zcs) := Lib.hid (HZ2.out.far1 (by omega))
  have HBm : Hid (Below w.heap.size w (W2.setCell ⟨w.heap.size, 18, none⟩ (.int .u32 0))) := Lib.hid (HB2.out.setCell (p := ⟨w.heap.size, 18, none⟩) (Nat.le_refl _) _)
  have HF : Hid (∀ W : World, Has W w.heap.size 31 x.mid5.cs → Has ((W.setCell ⟨w.heap.size, 19, none⟩ (.int .u32 0)).setCell ⟨w.heap.size, 20, none⟩ (.int .u32 0)) w.heap.size 31 x.key5.cs) := Lib.hid (fun W h => by
    have h' := (h.set_ 19 (.int .u32 0)).set_ 20 (.int .u32 0)
    rw [key5_cs] at h'
    exact h')
  go_wp2_with (first
    | (refine wpList_store_mid rfl 24 (.tmp 11) (.tmp 10) rfl w.heap.size 2 #[.int .u8 0, .int .u8 0, .int .u8 0, .int .u8 0, .int .u8 0, .int .u8 0, .int .u8 0, .int .u8 0, .int .u8 0, .int .u8 0] rfl rfl (HXm.out.there 2 10 (by simp [NL.size])) (by kernel_rfl) (by simp [Value.oneCell']) ?_
       have h3 := Has.sets z10 2 _ _ HXm.out
       rw [mid5_cs] at h3
       have hz3 := Has.far (g := w.heap.size) (by omega) z10 2 _ HZm.out
       have hb3 := Below.sets (Nat.le_refl _) z10 2 _ HBm.out
       change wpList _ _ _ _ _ ((W2.setCell ⟨w.heap.size, 18, none⟩ (.int .u32 0)).setCells w.heap.size 2 z10)
       generalize (W2.setCell ⟨w.heap.size, 18, none⟩ (.int .u32 0)).setCells w.heap.size 2 z10 = W3 at h3 hz3 hb3 ⊢
       have c19 : W3.cell? ⟨w.heap.size, 19, none⟩ = some (.int .u32 x.l1) := h3.n19
       have c20 : W3.cell? ⟨w.heap.size, 20, none⟩ = some (.int .u32 x.l2) := h3.n20
       have f19 := h3.free 19
       have f20 := h3.free 20
       have H3 := Lib.hid h3
       have HZ3 := Lib.hid hz3
       have HB3 := Lib.hid hb3
       clear h3 hz3 hb3)
    | (refine wpList_load_row rfl 31 (.tmp 1) rfl w.heap.size rfl 31 x.key5.cs (0, 0) _ (HF.out _ H3.out) Try.underlying31 rfl x.key5.fit ?_)
    | (refine wpList_store_row rfl 31 (.tmp 2) (.tmp 14) rfl (w.heap.size + 1) x.key5.cs rfl rfl 31 zcs ((HZ3.out.far1 (by omega)).far1 (by omega)) x.key5.fit rfl x.key5.one ?_))
  have hz := (HZ3.out.far1 (g := w.heap.size) (i := 19) (v := .int .u32 0) (by omega)).far1 (g := w.heap.size) (i := 20) (v := .int .u32 0) (by omega)
  have hb := (HB3.out.setCell (p := ⟨w.heap.size, 19, none⟩) (Nat.le_refl _) (.int .u32 0)).setCell (p := ⟨w.heap.size, 20, none⟩) (Nat.le_refl _) (.int .u32 0)
  exact bodyPost_ret (v := .agg x.key5.cs) (results_cell_row rfl _ _ (w.heap.size + 1) 31 x.key5.cs (0, 0) _ rfl (setRow_heap _ _ _ _ _ _ hz) Try.underlying31 rfl x.key5.fit) rfl ⟨rfl, below_only hb (Only.row _) (by omega) hb.size⟩

set_option maxHeartbeats 1000000 in
theorem key_2 (x : NL) (hk : x.k = 2) (w : World) : Calls Try.prog 12 #[.agg x.cs] w fun e w' => e = .returned (.agg x.key2.cs) ∧ Below w.heap.size w w' := by
  have HX2 : Hid (Has ((w.alloc (.cells x.cs 31)).alloc (.cells zcs 31)) w.heap.size 31 x.cs) := Lib.hid ((Has.new _ _ _).below ((Below.refl _ _).alloc (Nat.le_refl _) _))
  have HZ2 : Hid (Has ((w.alloc (.cells x.cs 31)).alloc (.cells zcs 31)) (w.heap.size + 1) 31 zcs) := Lib.hid (by
    have h := Has.new (w.alloc (.cells x.cs 31)) 31 zcs
    simpa using h)
  have HB2 : Hid (Below w.heap.size w ((w.alloc (.cells x.cs 31)).alloc (.cells zcs 31))) := Lib.hid (((Below.refl _ w).alloc (Nat.le_refl _) _).alloc (by simp) _)
  have hk0 : x.cs[0]? = some (.int .i64 2) := by rw [← hk]; rfl
  clear hk
  go_enter Try.func12, Try.ntmps12
  go_upto_region 1 with fail
  generalize ((w.alloc (.cells x.cs 31)).alloc (.cells zcs 31)) = W2 at *
  have c0 := (HX2.out.cell 0).trans hk0
  have c18 : W2.cell? ⟨w.heap.size, 18, none⟩ = some (.int .u32 x.gw) := HX2.out.cell 18
  have c19 : W2.cell? ⟨w.heap.size, 19, none⟩ = some (.int .u32 x.l1) := HX2.out.cell 19
  have c20 : W2.cell? ⟨w.heap.size, 20, none⟩ = some (.int .u32 x.l2) := HX2.out.cell 20
  have f18 := HX2.out.free 18
  have f19 := HX2.out.free 19
  have f20 := HX2.out.free 20
  have HXm := HX2
  have HZm := HZ2
  have HBm := HB2
  have HF : Hid (∀ W : World, Has W w.heap.size 31 x.mid2.cs → Has ((W.setCell ⟨w.heap.size, 19, none⟩ (.int .u32 0)).setCell ⟨w.heap.size, 20, none⟩ (.int .u32 0)) w.heap.size 31 x.key2.cs) := Lib.hid (fun W h => by
    have h' := (h.set_ 19 (.int .u32 0)).set_ 20 (.int .u32 0)
    rw [key2_cs] at h'
    exact h')
  go_wp2_with (first
    | (refine wpList_store_mid rfl 24 (.tmp 11) (.tmp 10) rfl w.heap.size 2 #[.int .u8 0, .int .u8 0, .int .u8 0, .int .u8 0, .int .u8 0, .int .u8 0, .int .u8 0, .int .u8 0, .int .u8 0, .int .u8 0] rfl rfl (HXm.out.there 2 10 (by simp [NL.size])) (by kernel_rfl) (by simp [Value.oneCell']) ?_
       have h3 := Has.sets z10 2 _ _ HXm.out
       rw [mid2_cs] at h3
       have hz3 := Has.far (g := w.heap.size) (by omega) z10 2 _ HZm.out
       have hb3 := Below.sets (Nat.le_refl _) z10 2 _ HBm.out
       change wpList _ _ _ _ _ (W2.setCells w.heap.size 2 z10)
       generalize W2.setCells w.heap.size 2 z10 = W3 at h3 hz3 hb3 ⊢
       have c19 : W3.cell? ⟨w.heap.size, 19, none⟩ = some (.int .u32 x.l1) := h3.n19
       have c20 : W3.cell? ⟨w.heap.size, 20, none⟩ = some (.int .u32 x.l2) := h3.n20
       have f19 := h3.free 19
       have f20 := h3.free 20
       have H3 := Lib.hid h3
       have HZ3 := Lib.hid hz3
       have HB3 := Lib.hid hb3
       clear h3 hz3 hb3)
    | (refine wpList_load_row rfl 31 (.tmp 1) rfl w.heap.size rfl 31 x.key2.cs (0, 0) _ (HF.out _ H3.out) Try.underlying31 rfl x.key2.fit ?_)
    | (refine wpList_store_row rfl 31 (.tmp 2) (.tmp 14) rfl (w.heap.size + 1) x.key2.cs rfl rfl 31 zcs ((HZ3.out.far1 (by omega)).far1 (by omega)) x.key2.fit rfl x.key2.one ?_))
  have hz := (HZ3.out.far1 (g := w.heap.size) (i := 19) (v := .int .u32 0) (by omega)).far1 (g := w.heap.size) (i := 20) (v := .int .u32 0) (by omega)
  have hb := (HB3.out.setCell (p := ⟨w.heap.size, 19, none⟩) (Nat.le_refl _) (.int .u32 0)).setCell (p := ⟨w.heap.size, 20, none⟩) (Nat.le_refl _) (.int .u32 0)
  exact bodyPost_ret (v := .agg x.key2.cs) (results_cell_row rfl _ _ (w.heap.size + 1) 31 x.key2.cs (0, 0) _ rfl (setRow_heap _ _ _ _ _ _ hz) Try.underlying31 rfl x.key2.fit) rfl ⟨rfl, below_only hb (Only.row _) (by omega) hb.size⟩

set_option maxHeartbeats 1000000 in
theorem key_0 (x : NL) (h5 : x.k ≠ 5) (h2 : x.k ≠ 2) (w : World) : Calls Try.prog 12 #[.agg x.cs] w fun e w' => e = .returned (.agg x.key0.cs) ∧ Below w.heap.size w w' := by
  have HX2 : Hid (Has ((w.alloc (.cells x.cs 31)).alloc (.cells zcs 31)) w.heap.size 31 x.cs) := Lib.hid ((Has.new _ _ _).below ((Below.refl _ _).alloc (Nat.le_refl _) _))
  have HZ2 : Hid (Has ((w.alloc (.cells x.cs 31)).alloc (.cells zcs 31)) (w.heap.size + 1) 31 zcs) := Lib.hid (by
    have h := Has.new (w.alloc (.cells x.cs 31)) 31 zcs
    simpa using h)
  have HB2 : Hid (Below w.heap.size w ((w.alloc (.cells x.cs 31)).alloc (.cells zcs 31))) := Lib.hid (((Below.refl _ w).alloc (Nat.le_refl _) _).alloc (by simp) _)
  have hk0 : x.cs[0]? = some (.int .i64 x.k) := rfl
  have hk5 : (x.k == 5) = false := by simpa using h5
  have hk2 : (x.k == 2) = false := by simpa using h2
  clear h5 h2
  go_enter Try.func12, Try.ntmps12
  go_upto_region 1 with fail
  generalize ((w.alloc (.cells x.cs 31)).alloc (.cells zcs 31)) = W2 at *
  have c0 := (HX2.out.cell 0).trans hk0
  have c18 : W2.cell? ⟨w.heap.size, 18, none⟩ = some (.int .u32 x.gw) := HX2.out.cell 18
  have c19 : W2.cell? ⟨w.heap.size, 19, none⟩ = some (.int .u32 x.l1) := HX2.out.cell 19
  have c20 : W2.cell? ⟨w.heap.size, 20, none⟩ = some (.int .u32 x.l2) := HX2.out.cell 20
  have f18 := HX2.out.free 18
  have f19 := HX2.out.free 19
  have f20 := HX2.out.free 20
  have H3 := HX2
  have HZ3 := HZ2
  have HB3 := HB2
  have HF : Hid (∀ W : World, Has W w.heap.size 31 x.cs → Has ((W.setCell ⟨w.heap.size, 19, none⟩ (.int .u32 0)).setCell ⟨w.heap.size, 20, none⟩ (.int .u32 0)) w.heap.size 31 x.key0.cs) := Lib.hid (fun W h => by
    have h' := (h.set_ 19 (.int .u32 0)).set_ 20 (.int .u32 0)
    rw [key0_cs] at h'
    exact h')
  go_wp2_with (first
    | (refine wpList_load_row rfl 31 (.tmp 1) rfl w.heap.size rfl 31 x.key0.cs (0, 0) _ (HF.out _ H3.out) Try.underlying31 rfl x.key0.fit ?_)
    | (refine wpList_store_row rfl 31 (.tmp 2) (.tmp 14) rfl (w.heap.size + 1) x.key0.cs rfl rfl 31 zcs ((HZ3.out.far1 (by omega)).far1 (by omega)) x.key0.fit rfl x.key0.one ?_))
  have hz := (HZ3.out.far1 (g := w.heap.size) (i := 19) (v := .int .u32 0) (by omega)).far1 (g := w.heap.size) (i := 20) (v := .int .u32 0) (by omega)
  have hb := (HB3.out.setCell (p := ⟨w.heap.size, 19, none⟩) (Nat.le_refl _) (.int .u32 0)).setCell (p := ⟨w.heap.size, 20, none⟩) (Nat.le_refl _) (.int .u32 0)
  exact bodyPost_ret (v := .agg x.key0.cs) (results_cell_row rfl _ _ (w.heap.size + 1) 31 x.key0.cs (0, 0) _ rfl (setRow_heap _ _ _ _ _ _ hz) Try.underlying31 rfl x.key0.fit) rfl ⟨rfl, below_only hb (Only.row _) (by omega) hb.size⟩

theorem key_any (x : NL) (w : World) : Calls Try.prog 12 #[.agg x.cs] w fun e w' => e = .returned (.agg x.key.cs) ∧ Below w.heap.size w w' := by
  unfold NL.key
  by_cases h5 : x.k = 5
  · rw [if_pos h5]; exact key_5 x h5 w
  · rw [if_neg h5]
    by_cases h2 : x.k = 2
    · rw [if_pos h2]; exact key_2 x h2 w
    · rw [if_neg h2]; exact key_0 x h5 h2 w

end Go.Proofs.Ythhajknmokomjaa
