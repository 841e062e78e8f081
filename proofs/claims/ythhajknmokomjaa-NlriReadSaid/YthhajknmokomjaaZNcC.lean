/- Routes: the document's only; written by gen_ncc.py. -/
import Derived.Test.YthhajknmokomjaaZNcB
import Derived.Test.YthhajknmokomjaaZNrQ
namespace Go.Proofs.Ythhajknmokomjaa
open Go.RowKit Go.Maps Go.Shelf
set_option linter.unusedVariables false
set_option linter.unusedSimpArgs false
set_option maxRecDepth 100000

def NL.ev (x : NL) : List Value := [.int .u8 x.e0, .int .u8 x.e1, .int .u8 x.e2, .int .u8 x.e3, .int .u8 x.e4, .int .u8 x.e5, .int .u8 x.e6, .int .u8 x.e7, .int .u8 x.e8, .int .u8 x.e9]
theorem NL.ev_one (x : NL) : ∀ v ∈ x.ev, v.oneCell' = true := by
  intro v hv
  simp only [NL.ev, List.mem_cons, List.not_mem_nil, or_false] at hv
  rcases hv with rfl | rfl | rfl | rfl | rfl | rfl | rfl | rfl | rfl | rfl <;> rfl
theorem has_esi {w : World} {g : Nat} {t : TypeId} {x : NL} (h : Has w g t x.cs) : w.rangeAt g 2 x.ev := fun j u hu => by
  have hj : j < 10 := (List.getElem?_eq_some_iff.1 hu).1
  rw [h.cell, ← hu]
  have h10 : j = 0 ∨ j = 1 ∨ j = 2 ∨ j = 3 ∨ j = 4 ∨ j = 5 ∨ j = 6 ∨ j = 7 ∨ j = 8 ∨ j = 9 := by omega
  rcases h10 with h | h | h | h | h | h | h | h | h | h <;> subst h <;> rfl
theorem esi_fitv {x : NL} : (Try.prog.info? 24).map (·.size) = some x.ev.length := by kernel_rfl
theorem esi_fitw {x : NL} : (Try.prog.info? 24).map (·.size) = some x.ev.toArray.size := by kernel_rfl
def NL.beg (x : NL) : NL := ⟨x.k, x.rd, 0, 0, 0, 0, 0, 0, 0, 0, 0, 0, 0, 0, 0, false, 0, 0, 0, 0, 0⟩

set_option maxHeartbeats 1000000 in
theorem ronly_1 (x : NL) (hk : x.k = 1) (w : World) : Calls Try.prog 29 #[.agg x.cs] w fun e w' => e = .returned (.tuple #[.agg x.sh1.cs, .bool true]) ∧ Below w.heap.size w w' := by
  have hx3 : Has (((w.alloc (.cells x.cs 31)).alloc (.cells zcs 31)).alloc (.cells zcs 31)) w.heap.size 31 x.cs := ((Has.new w 31 x.cs).below ((Below.refl _ _).alloc (Nat.le_refl _) _)).below ((Below.refl _ _).alloc (Nat.le_refl _) _)
  have hz3 : Has (((w.alloc (.cells x.cs 31)).alloc (.cells zcs 31)).alloc (.cells zcs 31)) (w.heap.size + 1) 31 zcs := by
    have h := (Has.new (w.alloc (.cells x.cs 31)) 31 zcs).below ((Below.refl _ _).alloc (Nat.le_refl _) (.cells zcs 31))
    simpa using h
  have HY3 : Hid (Has (((w.alloc (.cells x.cs 31)).alloc (.cells zcs 31)).alloc (.cells zcs 31)) (w.heap.size + 1 + 1) 31 zcs) := Lib.hid (by
    have h := Has.new ((w.alloc (.cells x.cs 31)).alloc (.cells zcs 31)) 31 zcs
    simpa using h)
  have hb3 : Below w.heap.size w (((w.alloc (.cells x.cs 31)).alloc (.cells zcs 31)).alloc (.cells zcs 31)) := (((Below.refl _ w).alloc (Nat.le_refl _) _).alloc (by simp) _).alloc (by simp; omega) _
  have HX4 : Hid (Has ((((w.alloc (.cells x.cs 31)).alloc (.cells zcs 31)).alloc (.cells zcs 31)).setRow (w.heap.size + 1 + 1) x.beg.cs) w.heap.size 31 x.cs) := Lib.hid (hx3.grown (Only.row (h := w.heap.size + 1 + 1) x.beg.cs) (by intro h; injection h with h; omega))
  have HZ4 : Hid (Has ((((w.alloc (.cells x.cs 31)).alloc (.cells zcs 31)).alloc (.cells zcs 31)).setRow (w.heap.size + 1 + 1) x.beg.cs) (w.heap.size + 1) 31 zcs) := Lib.hid (hz3.grown (Only.row (h := w.heap.size + 1 + 1) x.beg.cs) (by intro h; injection h with h; omega))
  have HY4 : Hid (Has ((((w.alloc (.cells x.cs 31)).alloc (.cells zcs 31)).alloc (.cells zcs 31)).setRow (w.heap.size + 1 + 1) x.beg.cs) (w.heap.size + 1 + 1) 31 x.beg.cs) := Lib.hid (setRow_heap _ _ _ _ _ _ HY3.out)
  have HB4 : Hid (Below w.heap.size w ((((w.alloc (.cells x.cs 31)).alloc (.cells zcs 31)).alloc (.cells zcs 31)).setRow (w.heap.size + 1 + 1) x.beg.cs)) := Lib.hid (setRow_below hb3 (by omega) hb3.size)
  have x0 : x.cs[0]? = some (.int .i64 x.k) := rfl
  have x1 : x.cs[1]? = some (.int .u64 x.rd) := rfl
  have HK := Lib.hid hk
  clear hx3 hz3 hb3 hk
  go_enter Try.func29, Try.ntmps29
  go_upto_region 2 with (refine wpList_store_row rfl 31 (.tmp 4) (.tmp 9) rfl (w.heap.size + 1 + 1) x.beg.cs rfl rfl 31 zcs HY3.out x.beg.fit rfl x.beg.one ?_)
  clear HY3
  generalize ((((w.alloc (.cells x.cs 31)).alloc (.cells zcs 31)).alloc (.cells zcs 31)).setRow (w.heap.size + 1 + 1) x.beg.cs) = W4 at *
  have c0 : W4.cell? ⟨w.heap.size, 0, none⟩ = some (.int .i64 1) := HX4.out.n0.trans (congrArg (fun z => some (Value.int .i64 z)) HK.out)
  go_upto_region 5 with fail
  clear c0 x0 x1
  have HX : Hid (Has W4.drew w.heap.size 31 x.cs) := Lib.hid (HX4.out.below (Below.refl _ W4).drew)
  have HZ : Hid (Has W4.drew (w.heap.size + 1) 31 zcs) := Lib.hid (HZ4.out.below (Below.refl _ W4).drew)
  have HY : Hid (Has W4.drew (w.heap.size + 1 + 1) 31 x.beg.cs) := Lib.hid (HY4.out.below (Below.refl _ W4).drew)
  have HB : Hid (Below w.heap.size w W4.drew) := Lib.hid HB4.out.drew
  refine wp_region_held_drew (S := (fun w' => Has w' w.heap.size 31 x.cs)) (by kernel_rfl) HX.out (fun hHeld => ?_)
  refine wpAnyH_take (i := 0) (oi := { dst := some 15, op := Go.Op.fieldAddr 31 (Go.Operand.tmp 1) 2, type := 0, pos := "ref.go:14", after := #[], guard := none }) (v := ?_) rfl (by kernel_rfl) (by kernel_rfl) (by kernel_rfl) (fun _ _ _ h => h) (Or.inl ⟨by rfl, ?_⟩) (by assumption) ?_
  rotate_left
  · intro wS hSw
    clear hSw
    go_simp
    try with_reducible rfl
  try simp only [Act.put, List.setIfInBounds_toArray, List.set_cons_zero, List.set_cons_succ]
  refine wpAnyH_take (i := 1) (oi := { dst := some 16, op := Go.Op.load 24 (Go.Operand.tmp 15), type := 24, pos := "ref.go:14", after := #[{ on := 0, ground := Go.Ground.data }], guard := none }) (v := .agg x.ev.toArray) rfl (by kernel_rfl) (by kernel_rfl) (by kernel_rfl) (fun _ _ _ h => h) (yieldsIf_load_mid (by rfl) 24 (.tmp 15) rfl w.heap.size 2 rfl x.ev _ (fun _ h => has_esi h) Try.underlying24 rfl esi_fitv) (by assumption) ?_
  try simp only [Act.put, List.setIfInBounds_toArray, List.set_cons_zero, List.set_cons_succ]
  refine wpAnyH_take (i := 2) (oi := { dst := some 17, op := Go.Op.fieldAddr 31 (Go.Operand.tmp 1) 3, type := 0, pos := "ref.go:14", after := #[{ on := 7, ground := Go.Ground.gcOnly Go.Departure.lateStores }], guard := none }) (v := ?_) rfl (by kernel_rfl) (by kernel_rfl) (by kernel_rfl) (fun _ _ _ h => h) (Or.inl ⟨by rfl, ?_⟩) (by assumption) ?_
  rotate_left
  · intro wS hSw
    clear hSw
    go_simp
    try with_reducible rfl
  try simp only [Act.put, List.setIfInBounds_toArray, List.set_cons_zero, List.set_cons_succ]
  refine wpAnyH_take (i := 3) (oi := { dst := some 18, op := Go.Op.load 25 (Go.Operand.tmp 17), type := 25, pos := "ref.go:14", after := #[{ on := 2, ground := Go.Ground.data }, { on := 7, ground := Go.Ground.gcOnly Go.Departure.lateStores }], guard := none }) (v := ?_) rfl (by kernel_rfl) (by kernel_rfl) (by kernel_rfl) (fun _ _ _ h => h) (Or.inl ⟨by rfl, ?_⟩) (by assumption) ?_
  rotate_left
  · intro wS hSw
    have q12 := Has.n12 hSw
    clear hSw
    go_simp
    try with_reducible rfl
  try simp only [Act.put, List.setIfInBounds_toArray, List.set_cons_zero, List.set_cons_succ]
  refine wpAnyH_take (i := 4) (oi := { dst := some 19, op := Go.Op.fieldAddr 31 (Go.Operand.tmp 1) 9, type := 0, pos := "ref.go:14", after := #[{ on := 9, ground := Go.Ground.gcOnly Go.Departure.lateStores }], guard := none }) (v := ?_) rfl (by kernel_rfl) (by kernel_rfl) (by kernel_rfl) (fun _ _ _ h => h) (Or.inl ⟨by rfl, ?_⟩) (by assumption) ?_
  rotate_left
  · intro wS hSw
    clear hSw
    go_simp
    try with_reducible rfl
  try simp only [Act.put, List.setIfInBounds_toArray, List.set_cons_zero, List.set_cons_succ]
  refine wpAnyH_take (i := 5) (oi := { dst := some 20, op := Go.Op.load 25 (Go.Operand.tmp 19), type := 25, pos := "ref.go:14", after := #[{ on := 4, ground := Go.Ground.data }, { on := 9, ground := Go.Ground.gcOnly Go.Departure.lateStores }], guard := none }) (v := ?_) rfl (by kernel_rfl) (by kernel_rfl) (by kernel_rfl) (fun _ _ _ h => h) (Or.inl ⟨by rfl, ?_⟩) (by assumption) ?_
  rotate_left
  · intro wS hSw
    have q19 := Has.n19 hSw
    clear hSw
    go_simp
    try with_reducible rfl
  try simp only [Act.put, List.setIfInBounds_toArray, List.set_cons_zero, List.set_cons_succ]
  have HY0 := HY
  have HX0 := HX
  have HZ0 := HZ
  have HB0 := HB
  clear HY HX HZ HB HX4 HY4 HZ4 HB4
  generalize W4.drew = V0 at *
  refine wpAnyH_take (i := 6) (oi := { dst := some 21, op := Go.Op.fieldAddr 31 (Go.Operand.tmp 4) 2, type := 0, pos := "ref.go:14", after := #[{ on := 0, ground := Go.Ground.phase }, { on := 1, ground := Go.Ground.phase }, { on := 2, ground := Go.Ground.textOnly Go.Departure.lateStores }, { on := 3, ground := Go.Ground.textOnly Go.Departure.lateStores }, { on := 4, ground := Go.Ground.textOnly Go.Departure.lateStores }, { on := 5, ground := Go.Ground.textOnly Go.Departure.lateStores }], guard := none }) (v := ?_) rfl (by kernel_rfl) (by kernel_rfl) (by kernel_rfl) (fun _ _ _ h => h) (Or.inl ⟨by rfl, ?_⟩) (by assumption) ?_
  rotate_left
  · intro wS hSw
    clear hSw
    go_simp
    try with_reducible rfl
  try simp only [Act.put, List.setIfInBounds_toArray, List.set_cons_zero, List.set_cons_succ]
  refine wpAnyH_ready (rs := [7]) (by kernel_rfl) (by simp) ?_
  refine AllReadyH.cons (o := { dst := none, op := Go.Op.store 24 (Go.Operand.tmp 21) (Go.Operand.tmp 16), type := 0, pos := "ref.go:14", after := #[{ on := 6, ground := Go.Ground.data }, { on := 1, ground := Go.Ground.data }, { on := 0, ground := Go.Ground.phase }, { on := 1, ground := Go.Ground.phase }, { on := 2, ground := Go.Ground.textOnly Go.Departure.lateStores }, { on := 3, ground := Go.Ground.textOnly Go.Departure.lateStores }, { on := 4, ground := Go.Ground.textOnly Go.Departure.lateStores }, { on := 5, ground := Go.Ground.textOnly Go.Departure.lateStores }], guard := none }) rfl (fun K hK => ?_) AllReadyH.nil
  rw [if_pos (by rfl)]
  refine wp_store_mid 24 (.tmp 21) (.tmp 16) rfl (w.heap.size + 1 + 1) 2 x.ev.toArray rfl rfl (HY0.out.there 2 10 (by simp [NL.cs])) esi_fitw (all_oneCell_toArray x.ev_one) ?_
  have HY1 := Lib.hid (Has.sets x.ev 2 _ _ HY0.out)
  have HX1 := Lib.hid (Has.far (g := (w.heap.size + 1 + 1)) (by omega) x.ev 2 _ HX0.out)
  have HZ1 := Lib.hid (Has.far (g := (w.heap.size + 1 + 1)) (by omega) x.ev 2 _ HZ0.out)
  have HB1 := Lib.hid (Below.sets (g := (w.heap.size + 1 + 1)) (by omega) x.ev 2 _ HB0.out)
  refine hK.out _ _ HX1.out (fun hHeld => ?_)
  clear hK K
  try simp only [Act.put, List.setIfInBounds_toArray, List.set_cons_zero, List.set_cons_succ]
  clear HX0 HY0 HZ0 HB0
  change wpAnyH _ _ _ _ _ _ _ _ (V0.setCells (w.heap.size + 1 + 1) 2 x.ev)
  generalize (V0.setCells (w.heap.size + 1 + 1) 2 x.ev) = V1 at *
  have hy1 := HY1.out
  simp only [Go.Proofs.Ythhajknmokomjaa.sets, NL.ev, NL.cs, NL.beg, List.setIfInBounds_toArray, List.set_cons_zero, List.set_cons_succ] at hy1
  clear HY1
  have HY1 := Lib.hid hy1
  clear hy1
  refine wpAnyH_take (i := 8) (oi := { dst := some 22, op := Go.Op.fieldAddr 31 (Go.Operand.tmp 4) 3, type := 0, pos := "ref.go:14", after := #[{ on := 0, ground := Go.Ground.phase }, { on := 1, ground := Go.Ground.phase }, { on := 2, ground := Go.Ground.phase }, { on := 3, ground := Go.Ground.phase }, { on := 4, ground := Go.Ground.textOnly Go.Departure.lateStores }, { on := 5, ground := Go.Ground.textOnly Go.Departure.lateStores }, { on := 6, ground := Go.Ground.phase }, { on := 7, ground := Go.Ground.phase }], guard := none }) (v := ?_) rfl (by kernel_rfl) (by kernel_rfl) (by kernel_rfl) (fun _ _ _ h => h) (Or.inl ⟨by rfl, ?_⟩) (by assumption) ?_
  rotate_left
  · intro wS hSw
    clear hSw
    go_simp
    try with_reducible rfl
  try simp only [Act.put, List.setIfInBounds_toArray, List.set_cons_zero, List.set_cons_succ]
  refine wpAnyH_ready (rs := [9]) (by kernel_rfl) (by simp) ?_
  refine AllReadyH.cons (o := { dst := none, op := Go.Op.store 25 (Go.Operand.tmp 22) (Go.Operand.tmp 18), type := 0, pos := "ref.go:14", after := #[{ on := 8, ground := Go.Ground.data }, { on := 3, ground := Go.Ground.data }, { on := 7, ground := Go.Ground.chain }, { on := 0, ground := Go.Ground.phase }, { on := 1, ground := Go.Ground.phase }, { on := 2, ground := Go.Ground.phase }, { on := 3, ground := Go.Ground.phase }, { on := 4, ground := Go.Ground.textOnly Go.Departure.lateStores }, { on := 5, ground := Go.Ground.textOnly Go.Departure.lateStores }, { on := 6, ground := Go.Ground.phase }, { on := 7, ground := Go.Ground.phase }], guard := none }) rfl (fun K hK => ?_) AllReadyH.nil
  have c8_12 : V1.cell? ⟨w.heap.size + 1 + 1, 12, none⟩ = some (.int .u32 0) := HY1.out.cell 12
  have f8_12 := HY1.out.free 12
  go_simp
  have HY2 := Lib.hid (HY1.out.set_ 12 (.int .u32 x.tag))
  have HX2 := Lib.hid (HX1.out.far1 (g := (w.heap.size + 1 + 1)) (i := 12) (v := .int .u32 x.tag) (by omega))
  have HZ2 := Lib.hid (HZ1.out.far1 (g := (w.heap.size + 1 + 1)) (i := 12) (v := .int .u32 x.tag) (by omega))
  have HB2 := Lib.hid (HB1.out.setCell (p := ⟨(w.heap.size + 1 + 1), 12, none⟩) (by show w.heap.size ≤ w.heap.size + 1 + 1; omega) (.int .u32 x.tag))
  clear c8_12 f8_12
  refine hK.out _ _ HX2.out (fun hHeld => ?_)
  clear hK K
  try simp only [Act.put, List.setIfInBounds_toArray, List.set_cons_zero, List.set_cons_succ]
  clear HX1 HY1 HZ1 HB1
  change wpAnyH _ _ _ _ _ _ _ _ (V1.setCell ⟨w.heap.size + 1 + 1, 12, none⟩ (.int .u32 x.tag))
  generalize (V1.setCell ⟨w.heap.size + 1 + 1, 12, none⟩ (.int .u32 x.tag)) = V2 at *
  have hy2 := HY2.out
  simp only [Go.Proofs.Ythhajknmokomjaa.sets, NL.ev, NL.cs, NL.beg, List.setIfInBounds_toArray, List.set_cons_zero, List.set_cons_succ] at hy2
  clear HY2
  have HY2 := Lib.hid hy2
  clear hy2
  refine wpAnyH_take (i := 10) (oi := { dst := some 23, op := Go.Op.fieldAddr 31 (Go.Operand.tmp 4) 9, type := 0, pos := "ref.go:14", after := #[{ on := 0, ground := Go.Ground.phase }, { on := 1, ground := Go.Ground.phase }, { on := 2, ground := Go.Ground.phase }, { on := 3, ground := Go.Ground.phase }, { on := 4, ground := Go.Ground.phase }, { on := 5, ground := Go.Ground.phase }, { on := 6, ground := Go.Ground.phase }, { on := 7, ground := Go.Ground.phase }, { on := 8, ground := Go.Ground.phase }, { on := 9, ground := Go.Ground.phase }], guard := none }) (v := ?_) rfl (by kernel_rfl) (by kernel_rfl) (by kernel_rfl) (fun _ _ _ h => h) (Or.inl ⟨by rfl, ?_⟩) (by assumption) ?_
  rotate_left
  · intro wS hSw
    clear hSw
    go_simp
    try with_reducible rfl
  try simp only [Act.put, List.setIfInBounds_toArray, List.set_cons_zero, List.set_cons_succ]
  refine wpAnyH_ready (rs := [11]) (by kernel_rfl) (by simp) ?_
  refine AllReadyH.cons (o := { dst := none, op := Go.Op.store 25 (Go.Operand.tmp 23) (Go.Operand.tmp 20), type := 0, pos := "ref.go:14", after := #[{ on := 10, ground := Go.Ground.data }, { on := 5, ground := Go.Ground.data }, { on := 9, ground := Go.Ground.chain }, { on := 0, ground := Go.Ground.phase }, { on := 1, ground := Go.Ground.phase }, { on := 2, ground := Go.Ground.phase }, { on := 3, ground := Go.Ground.phase }, { on := 4, ground := Go.Ground.phase }, { on := 5, ground := Go.Ground.phase }, { on := 6, ground := Go.Ground.phase }, { on := 7, ground := Go.Ground.phase }, { on := 8, ground := Go.Ground.phase }, { on := 9, ground := Go.Ground.phase }], guard := none }) rfl (fun K hK => ?_) AllReadyH.nil
  have c10_19 : V2.cell? ⟨w.heap.size + 1 + 1, 19, none⟩ = some (.int .u32 0) := HY2.out.cell 19
  have f10_19 := HY2.out.free 19
  go_simp
  have HY3 := Lib.hid (HY2.out.set_ 19 (.int .u32 x.l1))
  have HX3 := Lib.hid (HX2.out.far1 (g := (w.heap.size + 1 + 1)) (i := 19) (v := .int .u32 x.l1) (by omega))
  have HZ3 := Lib.hid (HZ2.out.far1 (g := (w.heap.size + 1 + 1)) (i := 19) (v := .int .u32 x.l1) (by omega))
  have HB3 := Lib.hid (HB2.out.setCell (p := ⟨(w.heap.size + 1 + 1), 19, none⟩) (by show w.heap.size ≤ w.heap.size + 1 + 1; omega) (.int .u32 x.l1))
  clear c10_19 f10_19
  refine hK.out _ _ HX3.out (fun hHeld => ?_)
  clear hK K
  try simp only [Act.put, List.setIfInBounds_toArray, List.set_cons_zero, List.set_cons_succ]
  clear HX2 HY2 HZ2 HB2
  change wpAnyH _ _ _ _ _ _ _ _ (V2.setCell ⟨w.heap.size + 1 + 1, 19, none⟩ (.int .u32 x.l1))
  generalize (V2.setCell ⟨w.heap.size + 1 + 1, 19, none⟩ (.int .u32 x.l1)) = V3 at *
  have hy3 := HY3.out
  simp only [Go.Proofs.Ythhajknmokomjaa.sets, NL.ev, NL.cs, NL.beg, List.setIfInBounds_toArray, List.set_cons_zero, List.set_cons_succ] at hy3
  clear HY3
  have HY3 := Lib.hid hy3
  clear hy3
  refine wpAnyH_done (by kernel_rfl) ?_ _
  have hy := HY3.out
  have HYn : Hid (Has _ (w.heap.size + 1 + 1) 31 x.sh1.cs) := Lib.hid hy
  go_wp2_with (first
    | (refine wpList_load_row rfl 31 (.tmp 4) rfl (w.heap.size + 1 + 1) rfl 31 x.sh1.cs (0, 0) _ HYn.out Try.underlying31 rfl x.sh1.fit ?_)
    | (refine wpList_store_row rfl 31 (.tmp 2) (.tmp 84) rfl (w.heap.size + 1) x.sh1.cs rfl rfl 31 zcs HZ3.out x.sh1.fit rfl x.sh1.one ?_))
  exact bodyPost_ret (v := .tuple #[.agg x.sh1.cs, .bool true]) (results_cell_row_tmp rfl _ _ (w.heap.size + 1) 31 x.sh1.cs (0, 0) _ _ rfl rfl (setRow_heap _ _ _ _ _ _ HZ3.out) Try.underlying31 rfl x.sh1.fit) rfl ⟨rfl, setRow_below HB3.out (by omega) HB3.out.size⟩

set_option maxHeartbeats 1000000 in
theorem ronly_3 (x : NL) (hk : x.k = 3) (w : World) : Calls Try.prog 29 #[.agg x.cs] w fun e w' => e = .returned (.tuple #[.agg x.sh3.cs, .bool true]) ∧ Below w.heap.size w w' := by
  have hx3 : Has (((w.alloc (.cells x.cs 31)).alloc (.cells zcs 31)).alloc (.cells zcs 31)) w.heap.size 31 x.cs := ((Has.new w 31 x.cs).below ((Below.refl _ _).alloc (Nat.le_refl _) _)).below ((Below.refl _ _).alloc (Nat.le_refl _) _)
  have hz3 : Has (((w.alloc (.cells x.cs 31)).alloc (.cells zcs 31)).alloc (.cells zcs 31)) (w.heap.size + 1) 31 zcs := by
    have h := (Has.new (w.alloc (.cells x.cs 31)) 31 zcs).below ((Below.refl _ _).alloc (Nat.le_refl _) (.cells zcs 31))
    simpa using h
  have HY3 : Hid (Has (((w.alloc (.cells x.cs 31)).alloc (.cells zcs 31)).alloc (.cells zcs 31)) (w.heap.size + 1 + 1) 31 zcs) := Lib.hid (by
    have h := Has.new ((w.alloc (.cells x.cs 31)).alloc (.cells zcs 31)) 31 zcs
    simpa using h)
  have hb3 : Below w.heap.size w (((w.alloc (.cells x.cs 31)).alloc (.cells zcs 31)).alloc (.cells zcs 31)) := (((Below.refl _ w).alloc (Nat.le_refl _) _).alloc (by simp) _).alloc (by simp; omega) _
  have HX4 : Hid (Has ((((w.alloc (.cells x.cs 31)).alloc (.cells zcs 31)).alloc (.cells zcs 31)).setRow (w.heap.size + 1 + 1) x.beg.cs) w.heap.size 31 x.cs) := Lib.hid (hx3.grown (Only.row (h := w.heap.size + 1 + 1) x.beg.cs) (by intro h; injection h with h; omega))
  have HZ4 : Hid (Has ((((w.alloc (.cells x.cs 31)).alloc (.cells zcs 31)).alloc (.cells zcs 31)).setRow (w.heap.size + 1 + 1) x.beg.cs) (w.heap.size + 1) 31 zcs) := Lib.hid (hz3.grown (Only.row (h := w.heap.size + 1 + 1) x.beg.cs) (by intro h; injection h with h; omega))
  have HY4 : Hid (Has ((((w.alloc (.cells x.cs 31)).alloc (.cells zcs 31)).alloc (.cells zcs 31)).setRow (w.heap.size + 1 + 1) x.beg.cs) (w.heap.size + 1 + 1) 31 x.beg.cs) := Lib.hid (setRow_heap _ _ _ _ _ _ HY3.out)
  have HB4 : Hid (Below w.heap.size w ((((w.alloc (.cells x.cs 31)).alloc (.cells zcs 31)).alloc (.cells zcs 31)).setRow (w.heap.size + 1 + 1) x.beg.cs)) := Lib.hid (setRow_below hb3 (by omega) hb3.size)
  have x0 : x.cs[0]? = some (.int .i64 x.k) := rfl
  have x1 : x.cs[1]? = some (.int .u64 x.rd) := rfl
  have HK := Lib.hid hk
  clear hx3 hz3 hb3 hk
  go_enter Try.func29, Try.ntmps29
  go_upto_region 2 with (refine wpList_store_row rfl 31 (.tmp 4) (.tmp 9) rfl (w.heap.size + 1 + 1) x.beg.cs rfl rfl 31 zcs HY3.out x.beg.fit rfl x.beg.one ?_)
  clear HY3
  generalize ((((w.alloc (.cells x.cs 31)).alloc (.cells zcs 31)).alloc (.cells zcs 31)).setRow (w.heap.size + 1 + 1) x.beg.cs) = W4 at *
  have c0 : W4.cell? ⟨w.heap.size, 0, none⟩ = some (.int .i64 3) := HX4.out.n0.trans (congrArg (fun z => some (Value.int .i64 z)) HK.out)
  go_upto_region 11 with fail
  clear c0 x0 x1
  have HX : Hid (Has W4.drew w.heap.size 31 x.cs) := Lib.hid (HX4.out.below (Below.refl _ W4).drew)
  have HZ : Hid (Has W4.drew (w.heap.size + 1) 31 zcs) := Lib.hid (HZ4.out.below (Below.refl _ W4).drew)
  have HY : Hid (Has W4.drew (w.heap.size + 1 + 1) 31 x.beg.cs) := Lib.hid (HY4.out.below (Below.refl _ W4).drew)
  have HB : Hid (Below w.heap.size w W4.drew) := Lib.hid HB4.out.drew
  refine wp_region_held_drew (S := (fun w' => Has w' w.heap.size 31 x.cs)) (by kernel_rfl) HX.out (fun hHeld => ?_)
  refine wpAnyH_take (i := 0) (oi := { dst := some 51, op := Go.Op.fieldAddr 31 (Go.Operand.tmp 1) 3, type := 0, pos := "ref.go:21", after := #[], guard := none }) (v := ?_) rfl (by kernel_rfl) (by kernel_rfl) (by kernel_rfl) (fun _ _ _ h => h) (Or.inl ⟨by rfl, ?_⟩) (by assumption) ?_
  rotate_left
  · intro wS hSw
    clear hSw
    go_simp
    try with_reducible rfl
  try simp only [Act.put, List.setIfInBounds_toArray, List.set_cons_zero, List.set_cons_succ]
  refine wpAnyH_take (i := 1) (oi := { dst := some 52, op := Go.Op.load 25 (Go.Operand.tmp 51), type := 25, pos := "ref.go:21", after := #[{ on := 0, ground := Go.Ground.data }], guard := none }) (v := ?_) rfl (by kernel_rfl) (by kernel_rfl) (by kernel_rfl) (fun _ _ _ h => h) (Or.inl ⟨by rfl, ?_⟩) (by assumption) ?_
  rotate_left
  · intro wS hSw
    have q12 := Has.n12 hSw
    clear hSw
    go_simp
    try with_reducible rfl
  try simp only [Act.put, List.setIfInBounds_toArray, List.set_cons_zero, List.set_cons_succ]
  refine wpAnyH_take (i := 2) (oi := { dst := some 53, op := Go.Op.fieldAddr 31 (Go.Operand.tmp 1) 5, type := 0, pos := "ref.go:21", after := #[{ on := 5, ground := Go.Ground.gcOnly Go.Departure.lateStores }], guard := none }) (v := ?_) rfl (by kernel_rfl) (by kernel_rfl) (by kernel_rfl) (fun _ _ _ h => h) (Or.inl ⟨by rfl, ?_⟩) (by assumption) ?_
  rotate_left
  · intro wS hSw
    clear hSw
    go_simp
    try with_reducible rfl
  try simp only [Act.put, List.setIfInBounds_toArray, List.set_cons_zero, List.set_cons_succ]
  refine wpAnyH_take (i := 3) (oi := { dst := some 54, op := Go.Op.load 27 (Go.Operand.tmp 53), type := 27, pos := "ref.go:21", after := #[{ on := 2, ground := Go.Ground.data }, { on := 5, ground := Go.Ground.gcOnly Go.Departure.lateStores }], guard := none }) (v := ?_) rfl (by kernel_rfl) (by kernel_rfl) (by kernel_rfl) (fun _ _ _ h => h) (Or.inl ⟨by rfl, ?_⟩) (by assumption) ?_
  rotate_left
  · intro wS hSw
    have q14 := Has.n14 hSw
    clear hSw
    go_simp
    try with_reducible rfl
  try simp only [Act.put, List.setIfInBounds_toArray, List.set_cons_zero, List.set_cons_succ]
  have HY0 := HY
  have HX0 := HX
  have HZ0 := HZ
  have HB0 := HB
  clear HY HX HZ HB HX4 HY4 HZ4 HB4
  generalize W4.drew = V0 at *
  refine wpAnyH_take (i := 4) (oi := { dst := some 55, op := Go.Op.fieldAddr 31 (Go.Operand.tmp 4) 3, type := 0, pos := "ref.go:21", after := #[{ on := 0, ground := Go.Ground.phase }, { on := 1, ground := Go.Ground.phase }, { on := 2, ground := Go.Ground.textOnly Go.Departure.lateStores }, { on := 3, ground := Go.Ground.textOnly Go.Departure.lateStores }], guard := none }) (v := ?_) rfl (by kernel_rfl) (by kernel_rfl) (by kernel_rfl) (fun _ _ _ h => h) (Or.inl ⟨by rfl, ?_⟩) (by assumption) ?_
  rotate_left
  · intro wS hSw
    clear hSw
    go_simp
    try with_reducible rfl
  try simp only [Act.put, List.setIfInBounds_toArray, List.set_cons_zero, List.set_cons_succ]
  refine wpAnyH_ready (rs := [5]) (by kernel_rfl) (by simp) ?_
  refine AllReadyH.cons (o := { dst := none, op := Go.Op.store 25 (Go.Operand.tmp 55) (Go.Operand.tmp 52), type := 0, pos := "ref.go:21", after := #[{ on := 4, ground := Go.Ground.data }, { on := 1, ground := Go.Ground.data }, { on := 0, ground := Go.Ground.phase }, { on := 1, ground := Go.Ground.phase }, { on := 2, ground := Go.Ground.textOnly Go.Departure.lateStores }, { on := 3, ground := Go.Ground.textOnly Go.Departure.lateStores }], guard := none }) rfl (fun K hK => ?_) AllReadyH.nil
  have c4_12 : V0.cell? ⟨w.heap.size + 1 + 1, 12, none⟩ = some (.int .u32 0) := HY0.out.cell 12
  have f4_12 := HY0.out.free 12
  go_simp
  have HY1 := Lib.hid (HY0.out.set_ 12 (.int .u32 x.tag))
  have HX1 := Lib.hid (HX0.out.far1 (g := (w.heap.size + 1 + 1)) (i := 12) (v := .int .u32 x.tag) (by omega))
  have HZ1 := Lib.hid (HZ0.out.far1 (g := (w.heap.size + 1 + 1)) (i := 12) (v := .int .u32 x.tag) (by omega))
  have HB1 := Lib.hid (HB0.out.setCell (p := ⟨(w.heap.size + 1 + 1), 12, none⟩) (by show w.heap.size ≤ w.heap.size + 1 + 1; omega) (.int .u32 x.tag))
  clear c4_12 f4_12
  refine hK.out _ _ HX1.out (fun hHeld => ?_)
  clear hK K
  try simp only [Act.put, List.setIfInBounds_toArray, List.set_cons_zero, List.set_cons_succ]
  clear HX0 HY0 HZ0 HB0
  change wpAnyH _ _ _ _ _ _ _ _ (V0.setCell ⟨w.heap.size + 1 + 1, 12, none⟩ (.int .u32 x.tag))
  generalize (V0.setCell ⟨w.heap.size + 1 + 1, 12, none⟩ (.int .u32 x.tag)) = V1 at *
  have hy1 := HY1.out
  simp only [Go.Proofs.Ythhajknmokomjaa.sets, NL.ev, NL.cs, NL.beg, List.setIfInBounds_toArray, List.set_cons_zero, List.set_cons_succ] at hy1
  clear HY1
  have HY1 := Lib.hid hy1
  clear hy1
  refine wpAnyH_take (i := 6) (oi := { dst := some 56, op := Go.Op.fieldAddr 31 (Go.Operand.tmp 4) 5, type := 0, pos := "ref.go:21", after := #[{ on := 0, ground := Go.Ground.phase }, { on := 1, ground := Go.Ground.phase }, { on := 2, ground := Go.Ground.phase }, { on := 3, ground := Go.Ground.phase }, { on := 4, ground := Go.Ground.phase }, { on := 5, ground := Go.Ground.phase }], guard := none }) (v := ?_) rfl (by kernel_rfl) (by kernel_rfl) (by kernel_rfl) (fun _ _ _ h => h) (Or.inl ⟨by rfl, ?_⟩) (by assumption) ?_
  rotate_left
  · intro wS hSw
    clear hSw
    go_simp
    try with_reducible rfl
  try simp only [Act.put, List.setIfInBounds_toArray, List.set_cons_zero, List.set_cons_succ]
  refine wpAnyH_ready (rs := [7]) (by kernel_rfl) (by simp) ?_
  refine AllReadyH.cons (o := { dst := none, op := Go.Op.store 27 (Go.Operand.tmp 56) (Go.Operand.tmp 54), type := 0, pos := "ref.go:21", after := #[{ on := 6, ground := Go.Ground.data }, { on := 3, ground := Go.Ground.data }, { on := 5, ground := Go.Ground.chain }, { on := 0, ground := Go.Ground.phase }, { on := 1, ground := Go.Ground.phase }, { on := 2, ground := Go.Ground.phase }, { on := 3, ground := Go.Ground.phase }, { on := 4, ground := Go.Ground.phase }, { on := 5, ground := Go.Ground.phase }], guard := none }) rfl (fun K hK => ?_) AllReadyH.nil
  have c6_14 : V1.cell? ⟨w.heap.size + 1 + 1, 14, none⟩ = some (.int .u32 0) := HY1.out.cell 14
  have f6_14 := HY1.out.free 14
  go_simp
  have HY2 := Lib.hid (HY1.out.set_ 14 (.int .u32 x.ip))
  have HX2 := Lib.hid (HX1.out.far1 (g := (w.heap.size + 1 + 1)) (i := 14) (v := .int .u32 x.ip) (by omega))
  have HZ2 := Lib.hid (HZ1.out.far1 (g := (w.heap.size + 1 + 1)) (i := 14) (v := .int .u32 x.ip) (by omega))
  have HB2 := Lib.hid (HB1.out.setCell (p := ⟨(w.heap.size + 1 + 1), 14, none⟩) (by show w.heap.size ≤ w.heap.size + 1 + 1; omega) (.int .u32 x.ip))
  clear c6_14 f6_14
  refine hK.out _ _ HX2.out (fun hHeld => ?_)
  clear hK K
  try simp only [Act.put, List.setIfInBounds_toArray, List.set_cons_zero, List.set_cons_succ]
  clear HX1 HY1 HZ1 HB1
  change wpAnyH _ _ _ _ _ _ _ _ (V1.setCell ⟨w.heap.size + 1 + 1, 14, none⟩ (.int .u32 x.ip))
  generalize (V1.setCell ⟨w.heap.size + 1 + 1, 14, none⟩ (.int .u32 x.ip)) = V2 at *
  have hy2 := HY2.out
  simp only [Go.Proofs.Ythhajknmokomjaa.sets, NL.ev, NL.cs, NL.beg, List.setIfInBounds_toArray, List.set_cons_zero, List.set_cons_succ] at hy2
  clear HY2
  have HY2 := Lib.hid hy2
  clear hy2
  refine wpAnyH_take (i := 8) (oi := { dst := some 57, op := Go.Op.fieldAddr 31 (Go.Operand.tmp 4) 6, type := 0, pos := "ref.go:21", after := #[{ on := 0, ground := Go.Ground.phase }, { on := 1, ground := Go.Ground.phase }, { on := 2, ground := Go.Ground.phase }, { on := 3, ground := Go.Ground.phase }, { on := 4, ground := Go.Ground.phase }, { on := 5, ground := Go.Ground.phase }, { on := 6, ground := Go.Ground.phase }, { on := 7, ground := Go.Ground.phase }], guard := none }) (v := ?_) rfl (by kernel_rfl) (by kernel_rfl) (by kernel_rfl) (fun _ _ _ h => h) (Or.inl ⟨by rfl, ?_⟩) (by assumption) ?_
  rotate_left
  · intro wS hSw
    clear hSw
    go_simp
    try with_reducible rfl
  try simp only [Act.put, List.setIfInBounds_toArray, List.set_cons_zero, List.set_cons_succ]
  refine wpAnyH_ready (rs := [9]) (by kernel_rfl) (by simp) ?_
  refine AllReadyH.cons (o := { dst := none, op := Go.Op.store 4 (Go.Operand.tmp 57) (Go.Operand.const (Go.Value.bool true)), type := 0, pos := "ref.go:21", after := #[{ on := 8, ground := Go.Ground.data }, { on := 7, ground := Go.Ground.chain }, { on := 0, ground := Go.Ground.phase }, { on := 1, ground := Go.Ground.phase }, { on := 2, ground := Go.Ground.phase }, { on := 3, ground := Go.Ground.phase }, { on := 4, ground := Go.Ground.phase }, { on := 5, ground := Go.Ground.phase }, { on := 6, ground := Go.Ground.phase }, { on := 7, ground := Go.Ground.phase }], guard := none }) rfl (fun K hK => ?_) AllReadyH.nil
  have c8_15 : V2.cell? ⟨w.heap.size + 1 + 1, 15, none⟩ = some (.bool false) := HY2.out.cell 15
  have f8_15 := HY2.out.free 15
  go_simp
  have HY3 := Lib.hid (HY2.out.set_ 15 (.bool true))
  have HX3 := Lib.hid (HX2.out.far1 (g := (w.heap.size + 1 + 1)) (i := 15) (v := .bool true) (by omega))
  have HZ3 := Lib.hid (HZ2.out.far1 (g := (w.heap.size + 1 + 1)) (i := 15) (v := .bool true) (by omega))
  have HB3 := Lib.hid (HB2.out.setCell (p := ⟨(w.heap.size + 1 + 1), 15, none⟩) (by show w.heap.size ≤ w.heap.size + 1 + 1; omega) (.bool true))
  clear c8_15 f8_15
  refine hK.out _ _ HX3.out (fun hHeld => ?_)
  clear hK K
  try simp only [Act.put, List.setIfInBounds_toArray, List.set_cons_zero, List.set_cons_succ]
  clear HX2 HY2 HZ2 HB2
  change wpAnyH _ _ _ _ _ _ _ _ (V2.setCell ⟨w.heap.size + 1 + 1, 15, none⟩ (.bool true))
  generalize (V2.setCell ⟨w.heap.size + 1 + 1, 15, none⟩ (.bool true)) = V3 at *
  have hy3 := HY3.out
  simp only [Go.Proofs.Ythhajknmokomjaa.sets, NL.ev, NL.cs, NL.beg, List.setIfInBounds_toArray, List.set_cons_zero, List.set_cons_succ] at hy3
  clear HY3
  have HY3 := Lib.hid hy3
  clear hy3
  refine wpAnyH_done (by kernel_rfl) ?_ _
  have hy := HY3.out
  have HYn : Hid (Has _ (w.heap.size + 1 + 1) 31 x.sh3.cs) := Lib.hid hy
  go_wp2_with (first
    | (refine wpList_load_row rfl 31 (.tmp 4) rfl (w.heap.size + 1 + 1) rfl 31 x.sh3.cs (0, 0) _ HYn.out Try.underlying31 rfl x.sh3.fit ?_)
    | (refine wpList_store_row rfl 31 (.tmp 2) (.tmp 84) rfl (w.heap.size + 1) x.sh3.cs rfl rfl 31 zcs HZ3.out x.sh3.fit rfl x.sh3.one ?_))
  exact bodyPost_ret (v := .tuple #[.agg x.sh3.cs, .bool true]) (results_cell_row_tmp rfl _ _ (w.heap.size + 1) 31 x.sh3.cs (0, 0) _ _ rfl rfl (setRow_heap _ _ _ _ _ _ HZ3.out) Try.underlying31 rfl x.sh3.fit) rfl ⟨rfl, setRow_below HB3.out (by omega) HB3.out.size⟩

set_option maxHeartbeats 1000000 in
theorem ronly_4 (x : NL) (hk : x.k = 4) (w : World) : Calls Try.prog 29 #[.agg x.cs] w fun e w' => e = .returned (.tuple #[.agg x.sh4.cs, .bool true]) ∧ Below w.heap.size w w' := by
  have hx3 : Has (((w.alloc (.cells x.cs 31)).alloc (.cells zcs 31)).alloc (.cells zcs 31)) w.heap.size 31 x.cs := ((Has.new w 31 x.cs).below ((Below.refl _ _).alloc (Nat.le_refl _) _)).below ((Below.refl _ _).alloc (Nat.le_refl _) _)
  have hz3 : Has (((w.alloc (.cells x.cs 31)).alloc (.cells zcs 31)).alloc (.cells zcs 31)) (w.heap.size + 1) 31 zcs := by
    have h := (Has.new (w.alloc (.cells x.cs 31)) 31 zcs).below ((Below.refl _ _).alloc (Nat.le_refl _) (.cells zcs 31))
    simpa using h
  have HY3 : Hid (Has (((w.alloc (.cells x.cs 31)).alloc (.cells zcs 31)).alloc (.cells zcs 31)) (w.heap.size + 1 + 1) 31 zcs) := Lib.hid (by
    have h := Has.new ((w.alloc (.cells x.cs 31)).alloc (.cells zcs 31)) 31 zcs
    simpa using h)
  have hb3 : Below w.heap.size w (((w.alloc (.cells x.cs 31)).alloc (.cells zcs 31)).alloc (.cells zcs 31)) := (((Below.refl _ w).alloc (Nat.le_refl _) _).alloc (by simp) _).alloc (by simp; omega) _
  have HX4 : Hid (Has ((((w.alloc (.cells x.cs 31)).alloc (.cells zcs 31)).alloc (.cells zcs 31)).setRow (w.heap.size + 1 + 1) x.beg.cs) w.heap.size 31 x.cs) := Lib.hid (hx3.grown (Only.row (h := w.heap.size + 1 + 1) x.beg.cs) (by intro h; injection h with h; omega))
  have HZ4 : Hid (Has ((((w.alloc (.cells x.cs 31)).alloc (.cells zcs 31)).alloc (.cells zcs 31)).setRow (w.heap.size + 1 + 1) x.beg.cs) (w.heap.size + 1) 31 zcs) := Lib.hid (hz3.grown (Only.row (h := w.heap.size + 1 + 1) x.beg.cs) (by intro h; injection h with h; omega))
  have HY4 : Hid (Has ((((w.alloc (.cells x.cs 31)).alloc (.cells zcs 31)).alloc (.cells zcs 31)).setRow (w.heap.size + 1 + 1) x.beg.cs) (w.heap.size + 1 + 1) 31 x.beg.cs) := Lib.hid (setRow_heap _ _ _ _ _ _ HY3.out)
  have HB4 : Hid (Below w.heap.size w ((((w.alloc (.cells x.cs 31)).alloc (.cells zcs 31)).alloc (.cells zcs 31)).setRow (w.heap.size + 1 + 1) x.beg.cs)) := Lib.hid (setRow_below hb3 (by omega) hb3.size)
  have x0 : x.cs[0]? = some (.int .i64 x.k) := rfl
  have x1 : x.cs[1]? = some (.int .u64 x.rd) := rfl
  have HK := Lib.hid hk
  clear hx3 hz3 hb3 hk
  go_enter Try.func29, Try.ntmps29
  go_upto_region 2 with (refine wpList_store_row rfl 31 (.tmp 4) (.tmp 9) rfl (w.heap.size + 1 + 1) x.beg.cs rfl rfl 31 zcs HY3.out x.beg.fit rfl x.beg.one ?_)
  clear HY3
  generalize ((((w.alloc (.cells x.cs 31)).alloc (.cells zcs 31)).alloc (.cells zcs 31)).setRow (w.heap.size + 1 + 1) x.beg.cs) = W4 at *
  have c0 : W4.cell? ⟨w.heap.size, 0, none⟩ = some (.int .i64 4) := HX4.out.n0.trans (congrArg (fun z => some (Value.int .i64 z)) HK.out)
  go_upto_region 13 with fail
  clear c0 x0 x1
  have HX : Hid (Has W4.drew w.heap.size 31 x.cs) := Lib.hid (HX4.out.below (Below.refl _ W4).drew)
  have HZ : Hid (Has W4.drew (w.heap.size + 1) 31 zcs) := Lib.hid (HZ4.out.below (Below.refl _ W4).drew)
  have HY : Hid (Has W4.drew (w.heap.size + 1 + 1) 31 x.beg.cs) := Lib.hid (HY4.out.below (Below.refl _ W4).drew)
  have HB : Hid (Below w.heap.size w W4.drew) := Lib.hid HB4.out.drew
  refine wp_region_held_drew (S := (fun w' => Has w' w.heap.size 31 x.cs)) (by kernel_rfl) HX.out (fun hHeld => ?_)
  refine wpAnyH_take (i := 0) (oi := { dst := some 60, op := Go.Op.fieldAddr 31 (Go.Operand.tmp 1) 2, type := 0, pos := "ref.go:23", after := #[], guard := none }) (v := ?_) rfl (by kernel_rfl) (by kernel_rfl) (by kernel_rfl) (fun _ _ _ h => h) (Or.inl ⟨by rfl, ?_⟩) (by assumption) ?_
  rotate_left
  · intro wS hSw
    clear hSw
    go_simp
    try with_reducible rfl
  try simp only [Act.put, List.setIfInBounds_toArray, List.set_cons_zero, List.set_cons_succ]
  refine wpAnyH_take (i := 1) (oi := { dst := some 61, op := Go.Op.load 24 (Go.Operand.tmp 60), type := 24, pos := "ref.go:23", after := #[{ on := 0, ground := Go.Ground.data }], guard := none }) (v := .agg x.ev.toArray) rfl (by kernel_rfl) (by kernel_rfl) (by kernel_rfl) (fun _ _ _ h => h) (yieldsIf_load_mid (by rfl) 24 (.tmp 60) rfl w.heap.size 2 rfl x.ev _ (fun _ h => has_esi h) Try.underlying24 rfl esi_fitv) (by assumption) ?_
  try simp only [Act.put, List.setIfInBounds_toArray, List.set_cons_zero, List.set_cons_succ]
  refine wpAnyH_take (i := 2) (oi := { dst := some 62, op := Go.Op.fieldAddr 31 (Go.Operand.tmp 1) 5, type := 0, pos := "ref.go:23", after := #[{ on := 5, ground := Go.Ground.gcOnly Go.Departure.lateStores }], guard := none }) (v := ?_) rfl (by kernel_rfl) (by kernel_rfl) (by kernel_rfl) (fun _ _ _ h => h) (Or.inl ⟨by rfl, ?_⟩) (by assumption) ?_
  rotate_left
  · intro wS hSw
    clear hSw
    go_simp
    try with_reducible rfl
  try simp only [Act.put, List.setIfInBounds_toArray, List.set_cons_zero, List.set_cons_succ]
  refine wpAnyH_take (i := 3) (oi := { dst := some 63, op := Go.Op.load 27 (Go.Operand.tmp 62), type := 27, pos := "ref.go:23", after := #[{ on := 2, ground := Go.Ground.data }, { on := 5, ground := Go.Ground.gcOnly Go.Departure.lateStores }], guard := none }) (v := ?_) rfl (by kernel_rfl) (by kernel_rfl) (by kernel_rfl) (fun _ _ _ h => h) (Or.inl ⟨by rfl, ?_⟩) (by assumption) ?_
  rotate_left
  · intro wS hSw
    have q14 := Has.n14 hSw
    clear hSw
    go_simp
    try with_reducible rfl
  try simp only [Act.put, List.setIfInBounds_toArray, List.set_cons_zero, List.set_cons_succ]
  have HY0 := HY
  have HX0 := HX
  have HZ0 := HZ
  have HB0 := HB
  clear HY HX HZ HB HX4 HY4 HZ4 HB4
  generalize W4.drew = V0 at *
  refine wpAnyH_take (i := 4) (oi := { dst := some 64, op := Go.Op.fieldAddr 31 (Go.Operand.tmp 4) 2, type := 0, pos := "ref.go:23", after := #[{ on := 0, ground := Go.Ground.phase }, { on := 1, ground := Go.Ground.phase }, { on := 2, ground := Go.Ground.textOnly Go.Departure.lateStores }, { on := 3, ground := Go.Ground.textOnly Go.Departure.lateStores }], guard := none }) (v := ?_) rfl (by kernel_rfl) (by kernel_rfl) (by kernel_rfl) (fun _ _ _ h => h) (Or.inl ⟨by rfl, ?_⟩) (by assumption) ?_
  rotate_left
  · intro wS hSw
    clear hSw
    go_simp
    try with_reducible rfl
  try simp only [Act.put, List.setIfInBounds_toArray, List.set_cons_zero, List.set_cons_succ]
  refine wpAnyH_ready (rs := [5]) (by kernel_rfl) (by simp) ?_
  refine AllReadyH.cons (o := { dst := none, op := Go.Op.store 24 (Go.Operand.tmp 64) (Go.Operand.tmp 61), type := 0, pos := "ref.go:23", after := #[{ on := 4, ground := Go.Ground.data }, { on := 1, ground := Go.Ground.data }, { on := 0, ground := Go.Ground.phase }, { on := 1, ground := Go.Ground.phase }, { on := 2, ground := Go.Ground.textOnly Go.Departure.lateStores }, { on := 3, ground := Go.Ground.textOnly Go.Departure.lateStores }], guard := none }) rfl (fun K hK => ?_) AllReadyH.nil
  rw [if_pos (by rfl)]
  refine wp_store_mid 24 (.tmp 64) (.tmp 61) rfl (w.heap.size + 1 + 1) 2 x.ev.toArray rfl rfl (HY0.out.there 2 10 (by simp [NL.cs])) esi_fitw (all_oneCell_toArray x.ev_one) ?_
  have HY1 := Lib.hid (Has.sets x.ev 2 _ _ HY0.out)
  have HX1 := Lib.hid (Has.far (g := (w.heap.size + 1 + 1)) (by omega) x.ev 2 _ HX0.out)
  have HZ1 := Lib.hid (Has.far (g := (w.heap.size + 1 + 1)) (by omega) x.ev 2 _ HZ0.out)
  have HB1 := Lib.hid (Below.sets (g := (w.heap.size + 1 + 1)) (by omega) x.ev 2 _ HB0.out)
  refine hK.out _ _ HX1.out (fun hHeld => ?_)
  clear hK K
  try simp only [Act.put, List.setIfInBounds_toArray, List.set_cons_zero, List.set_cons_succ]
  clear HX0 HY0 HZ0 HB0
  change wpAnyH _ _ _ _ _ _ _ _ (V0.setCells (w.heap.size + 1 + 1) 2 x.ev)
  generalize (V0.setCells (w.heap.size + 1 + 1) 2 x.ev) = V1 at *
  have hy1 := HY1.out
  simp only [Go.Proofs.Ythhajknmokomjaa.sets, NL.ev, NL.cs, NL.beg, List.setIfInBounds_toArray, List.set_cons_zero, List.set_cons_succ] at hy1
  clear HY1
  have HY1 := Lib.hid hy1
  clear hy1
  refine wpAnyH_take (i := 6) (oi := { dst := some 65, op := Go.Op.fieldAddr 31 (Go.Operand.tmp 4) 5, type := 0, pos := "ref.go:23", after := #[{ on := 0, ground := Go.Ground.phase }, { on := 1, ground := Go.Ground.phase }, { on := 2, ground := Go.Ground.phase }, { on := 3, ground := Go.Ground.phase }, { on := 4, ground := Go.Ground.phase }, { on := 5, ground := Go.Ground.phase }], guard := none }) (v := ?_) rfl (by kernel_rfl) (by kernel_rfl) (by kernel_rfl) (fun _ _ _ h => h) (Or.inl ⟨by rfl, ?_⟩) (by assumption) ?_
  rotate_left
  · intro wS hSw
    clear hSw
    go_simp
    try with_reducible rfl
  try simp only [Act.put, List.setIfInBounds_toArray, List.set_cons_zero, List.set_cons_succ]
  refine wpAnyH_ready (rs := [7]) (by kernel_rfl) (by simp) ?_
  refine AllReadyH.cons (o := { dst := none, op := Go.Op.store 27 (Go.Operand.tmp 65) (Go.Operand.tmp 63), type := 0, pos := "ref.go:23", after := #[{ on := 6, ground := Go.Ground.data }, { on := 3, ground := Go.Ground.data }, { on := 5, ground := Go.Ground.chain }, { on := 0, ground := Go.Ground.phase }, { on := 1, ground := Go.Ground.phase }, { on := 2, ground := Go.Ground.phase }, { on := 3, ground := Go.Ground.phase }, { on := 4, ground := Go.Ground.phase }, { on := 5, ground := Go.Ground.phase }], guard := none }) rfl (fun K hK => ?_) AllReadyH.nil
  have c6_14 : V1.cell? ⟨w.heap.size + 1 + 1, 14, none⟩ = some (.int .u32 0) := HY1.out.cell 14
  have f6_14 := HY1.out.free 14
  go_simp
  have HY2 := Lib.hid (HY1.out.set_ 14 (.int .u32 x.ip))
  have HX2 := Lib.hid (HX1.out.far1 (g := (w.heap.size + 1 + 1)) (i := 14) (v := .int .u32 x.ip) (by omega))
  have HZ2 := Lib.hid (HZ1.out.far1 (g := (w.heap.size + 1 + 1)) (i := 14) (v := .int .u32 x.ip) (by omega))
  have HB2 := Lib.hid (HB1.out.setCell (p := ⟨(w.heap.size + 1 + 1), 14, none⟩) (by show w.heap.size ≤ w.heap.size + 1 + 1; omega) (.int .u32 x.ip))
  clear c6_14 f6_14
  refine hK.out _ _ HX2.out (fun hHeld => ?_)
  clear hK K
  try simp only [Act.put, List.setIfInBounds_toArray, List.set_cons_zero, List.set_cons_succ]
  clear HX1 HY1 HZ1 HB1
  change wpAnyH _ _ _ _ _ _ _ _ (V1.setCell ⟨w.heap.size + 1 + 1, 14, none⟩ (.int .u32 x.ip))
  generalize (V1.setCell ⟨w.heap.size + 1 + 1, 14, none⟩ (.int .u32 x.ip)) = V2 at *
  have hy2 := HY2.out
  simp only [Go.Proofs.Ythhajknmokomjaa.sets, NL.ev, NL.cs, NL.beg, List.setIfInBounds_toArray, List.set_cons_zero, List.set_cons_succ] at hy2
  clear HY2
  have HY2 := Lib.hid hy2
  clear hy2
  refine wpAnyH_take (i := 8) (oi := { dst := some 66, op := Go.Op.fieldAddr 31 (Go.Operand.tmp 4) 6, type := 0, pos := "ref.go:23", after := #[{ on := 0, ground := Go.Ground.phase }, { on := 1, ground := Go.Ground.phase }, { on := 2, ground := Go.Ground.phase }, { on := 3, ground := Go.Ground.phase }, { on := 4, ground := Go.Ground.phase }, { on := 5, ground := Go.Ground.phase }, { on := 6, ground := Go.Ground.phase }, { on := 7, ground := Go.Ground.phase }], guard := none }) (v := ?_) rfl (by kernel_rfl) (by kernel_rfl) (by kernel_rfl) (fun _ _ _ h => h) (Or.inl ⟨by rfl, ?_⟩) (by assumption) ?_
  rotate_left
  · intro wS hSw
    clear hSw
    go_simp
    try with_reducible rfl
  try simp only [Act.put, List.setIfInBounds_toArray, List.set_cons_zero, List.set_cons_succ]
  refine wpAnyH_ready (rs := [9]) (by kernel_rfl) (by simp) ?_
  refine AllReadyH.cons (o := { dst := none, op := Go.Op.store 4 (Go.Operand.tmp 66) (Go.Operand.const (Go.Value.bool true)), type := 0, pos := "ref.go:23", after := #[{ on := 8, ground := Go.Ground.data }, { on := 7, ground := Go.Ground.chain }, { on := 0, ground := Go.Ground.phase }, { on := 1, ground := Go.Ground.phase }, { on := 2, ground := Go.Ground.phase }, { on := 3, ground := Go.Ground.phase }, { on := 4, ground := Go.Ground.phase }, { on := 5, ground := Go.Ground.phase }, { on := 6, ground := Go.Ground.phase }, { on := 7, ground := Go.Ground.phase }], guard := none }) rfl (fun K hK => ?_) AllReadyH.nil
  have c8_15 : V2.cell? ⟨w.heap.size + 1 + 1, 15, none⟩ = some (.bool false) := HY2.out.cell 15
  have f8_15 := HY2.out.free 15
  go_simp
  have HY3 := Lib.hid (HY2.out.set_ 15 (.bool true))
  have HX3 := Lib.hid (HX2.out.far1 (g := (w.heap.size + 1 + 1)) (i := 15) (v := .bool true) (by omega))
  have HZ3 := Lib.hid (HZ2.out.far1 (g := (w.heap.size + 1 + 1)) (i := 15) (v := .bool true) (by omega))
  have HB3 := Lib.hid (HB2.out.setCell (p := ⟨(w.heap.size + 1 + 1), 15, none⟩) (by show w.heap.size ≤ w.heap.size + 1 + 1; omega) (.bool true))
  clear c8_15 f8_15
  refine hK.out _ _ HX3.out (fun hHeld => ?_)
  clear hK K
  try simp only [Act.put, List.setIfInBounds_toArray, List.set_cons_zero, List.set_cons_succ]
  clear HX2 HY2 HZ2 HB2
  change wpAnyH _ _ _ _ _ _ _ _ (V2.setCell ⟨w.heap.size + 1 + 1, 15, none⟩ (.bool true))
  generalize (V2.setCell ⟨w.heap.size + 1 + 1, 15, none⟩ (.bool true)) = V3 at *
  have hy3 := HY3.out
  simp only [Go.Proofs.Ythhajknmokomjaa.sets, NL.ev, NL.cs, NL.beg, List.setIfInBounds_toArray, List.set_cons_zero, List.set_cons_succ] at hy3
  clear HY3
  have HY3 := Lib.hid hy3
  clear hy3
  refine wpAnyH_done (by kernel_rfl) ?_ _
  have hy := HY3.out
  have HYn : Hid (Has _ (w.heap.size + 1 + 1) 31 x.sh4.cs) := Lib.hid hy
  go_wp2_with (first
    | (refine wpList_load_row rfl 31 (.tmp 4) rfl (w.heap.size + 1 + 1) rfl 31 x.sh4.cs (0, 0) _ HYn.out Try.underlying31 rfl x.sh4.fit ?_)
    | (refine wpList_store_row rfl 31 (.tmp 2) (.tmp 84) rfl (w.heap.size + 1) x.sh4.cs rfl rfl 31 zcs HZ3.out x.sh4.fit rfl x.sh4.one ?_))
  exact bodyPost_ret (v := .tuple #[.agg x.sh4.cs, .bool true]) (results_cell_row_tmp rfl _ _ (w.heap.size + 1) 31 x.sh4.cs (0, 0) _ _ rfl rfl (setRow_heap _ _ _ _ _ _ HZ3.out) Try.underlying31 rfl x.sh4.fit) rfl ⟨rfl, setRow_below HB3.out (by omega) HB3.out.size⟩

set_option maxHeartbeats 1000000 in
theorem ronly_5 (x : NL) (hk : x.k = 5) (w : World) : Calls Try.prog 29 #[.agg x.cs] w fun e w' => e = .returned (.tuple #[.agg x.sh5.cs, .bool true]) ∧ Below w.heap.size w w' := by
  have hx3 : Has (((w.alloc (.cells x.cs 31)).alloc (.cells zcs 31)).alloc (.cells zcs 31)) w.heap.size 31 x.cs := ((Has.new w 31 x.cs).below ((Below.refl _ _).alloc (Nat.le_refl _) _)).below ((Below.refl _ _).alloc (Nat.le_refl _) _)
  have hz3 : Has (((w.alloc (.cells x.cs 31)).alloc (.cells zcs 31)).alloc (.cells zcs 31)) (w.heap.size + 1) 31 zcs := by
    have h := (Has.new (w.alloc (.cells x.cs 31)) 31 zcs).below ((Below.refl _ _).alloc (Nat.le_refl _) (.cells zcs 31))
    simpa using h
  have HY3 : Hid (Has (((w.alloc (.cells x.cs 31)).alloc (.cells zcs 31)).alloc (.cells zcs 31)) (w.heap.size + 1 + 1) 31 zcs) := Lib.hid (by
    have h := Has.new ((w.alloc (.cells x.cs 31)).alloc (.cells zcs 31)) 31 zcs
    simpa using h)
  have hb3 : Below w.heap.size w (((w.alloc (.cells x.cs 31)).alloc (.cells zcs 31)).alloc (.cells zcs 31)) := (((Below.refl _ w).alloc (Nat.le_refl _) _).alloc (by simp) _).alloc (by simp; omega) _
  have HX4 : Hid (Has ((((w.alloc (.cells x.cs 31)).alloc (.cells zcs 31)).alloc (.cells zcs 31)).setRow (w.heap.size + 1 + 1) x.beg.cs) w.heap.size 31 x.cs) := Lib.hid (hx3.grown (Only.row (h := w.heap.size + 1 + 1) x.beg.cs) (by intro h; injection h with h; omega))
  have HZ4 : Hid (Has ((((w.alloc (.cells x.cs 31)).alloc (.cells zcs 31)).alloc (.cells zcs 31)).setRow (w.heap.size + 1 + 1) x.beg.cs) (w.heap.size + 1) 31 zcs) := Lib.hid (hz3.grown (Only.row (h := w.heap.size + 1 + 1) x.beg.cs) (by intro h; injection h with h; omega))
  have HY4 : Hid (Has ((((w.alloc (.cells x.cs 31)).alloc (.cells zcs 31)).alloc (.cells zcs 31)).setRow (w.heap.size + 1 + 1) x.beg.cs) (w.heap.size + 1 + 1) 31 x.beg.cs) := Lib.hid (setRow_heap _ _ _ _ _ _ HY3.out)
  have HB4 : Hid (Below w.heap.size w ((((w.alloc (.cells x.cs 31)).alloc (.cells zcs 31)).alloc (.cells zcs 31)).setRow (w.heap.size + 1 + 1) x.beg.cs)) := Lib.hid (setRow_below hb3 (by omega) hb3.size)
  have x0 : x.cs[0]? = some (.int .i64 x.k) := rfl
  have x1 : x.cs[1]? = some (.int .u64 x.rd) := rfl
  have HK := Lib.hid hk
  clear hx3 hz3 hb3 hk
  go_enter Try.func29, Try.ntmps29
  go_upto_region 2 with (refine wpList_store_row rfl 31 (.tmp 4) (.tmp 9) rfl (w.heap.size + 1 + 1) x.beg.cs rfl rfl 31 zcs HY3.out x.beg.fit rfl x.beg.one ?_)
  clear HY3
  generalize ((((w.alloc (.cells x.cs 31)).alloc (.cells zcs 31)).alloc (.cells zcs 31)).setRow (w.heap.size + 1 + 1) x.beg.cs) = W4 at *
  have c0 : W4.cell? ⟨w.heap.size, 0, none⟩ = some (.int .i64 5) := HX4.out.n0.trans (congrArg (fun z => some (Value.int .i64 z)) HK.out)
  go_upto_region 15 with fail
  clear c0 x0 x1
  have HX : Hid (Has W4.drew w.heap.size 31 x.cs) := Lib.hid (HX4.out.below (Below.refl _ W4).drew)
  have HZ : Hid (Has W4.drew (w.heap.size + 1) 31 zcs) := Lib.hid (HZ4.out.below (Below.refl _ W4).drew)
  have HY : Hid (Has W4.drew (w.heap.size + 1 + 1) 31 x.beg.cs) := Lib.hid (HY4.out.below (Below.refl _ W4).drew)
  have HB : Hid (Below w.heap.size w W4.drew) := Lib.hid HB4.out.drew
  refine wp_region_held_drew (S := (fun w' => Has w' w.heap.size 31 x.cs)) (by kernel_rfl) HX.out (fun hHeld => ?_)
  refine wpAnyH_take (i := 0) (oi := { dst := some 69, op := Go.Op.fieldAddr 31 (Go.Operand.tmp 1) 2, type := 0, pos := "ref.go:25", after := #[], guard := none }) (v := ?_) rfl (by kernel_rfl) (by kernel_rfl) (by kernel_rfl) (fun _ _ _ h => h) (Or.inl ⟨by rfl, ?_⟩) (by assumption) ?_
  rotate_left
  · intro wS hSw
    clear hSw
    go_simp
    try with_reducible rfl
  try simp only [Act.put, List.setIfInBounds_toArray, List.set_cons_zero, List.set_cons_succ]
  refine wpAnyH_take (i := 1) (oi := { dst := some 70, op := Go.Op.load 24 (Go.Operand.tmp 69), type := 24, pos := "ref.go:25", after := #[{ on := 0, ground := Go.Ground.data }], guard := none }) (v := .agg x.ev.toArray) rfl (by kernel_rfl) (by kernel_rfl) (by kernel_rfl) (fun _ _ _ h => h) (yieldsIf_load_mid (by rfl) 24 (.tmp 69) rfl w.heap.size 2 rfl x.ev _ (fun _ h => has_esi h) Try.underlying24 rfl esi_fitv) (by assumption) ?_
  try simp only [Act.put, List.setIfInBounds_toArray, List.set_cons_zero, List.set_cons_succ]
  refine wpAnyH_take (i := 2) (oi := { dst := some 71, op := Go.Op.fieldAddr 31 (Go.Operand.tmp 1) 3, type := 0, pos := "ref.go:25", after := #[{ on := 11, ground := Go.Ground.gcOnly Go.Departure.lateStores }], guard := none }) (v := ?_) rfl (by kernel_rfl) (by kernel_rfl) (by kernel_rfl) (fun _ _ _ h => h) (Or.inl ⟨by rfl, ?_⟩) (by assumption) ?_
  rotate_left
  · intro wS hSw
    clear hSw
    go_simp
    try with_reducible rfl
  try simp only [Act.put, List.setIfInBounds_toArray, List.set_cons_zero, List.set_cons_succ]
  refine wpAnyH_take (i := 3) (oi := { dst := some 72, op := Go.Op.load 25 (Go.Operand.tmp 71), type := 25, pos := "ref.go:25", after := #[{ on := 2, ground := Go.Ground.data }, { on := 11, ground := Go.Ground.gcOnly Go.Departure.lateStores }], guard := none }) (v := ?_) rfl (by kernel_rfl) (by kernel_rfl) (by kernel_rfl) (fun _ _ _ h => h) (Or.inl ⟨by rfl, ?_⟩) (by assumption) ?_
  rotate_left
  · intro wS hSw
    have q12 := Has.n12 hSw
    clear hSw
    go_simp
    try with_reducible rfl
  try simp only [Act.put, List.setIfInBounds_toArray, List.set_cons_zero, List.set_cons_succ]
  refine wpAnyH_take (i := 4) (oi := { dst := some 73, op := Go.Op.fieldAddr 31 (Go.Operand.tmp 1) 7, type := 0, pos := "ref.go:25", after := #[{ on := 13, ground := Go.Ground.gcOnly Go.Departure.lateStores }], guard := none }) (v := ?_) rfl (by kernel_rfl) (by kernel_rfl) (by kernel_rfl) (fun _ _ _ h => h) (Or.inl ⟨by rfl, ?_⟩) (by assumption) ?_
  rotate_left
  · intro wS hSw
    clear hSw
    go_simp
    try with_reducible rfl
  try simp only [Act.put, List.setIfInBounds_toArray, List.set_cons_zero, List.set_cons_succ]
  refine wpAnyH_take (i := 5) (oi := { dst := some 74, op := Go.Op.load 29 (Go.Operand.tmp 73), type := 29, pos := "ref.go:25", after := #[{ on := 4, ground := Go.Ground.data }, { on := 13, ground := Go.Ground.gcOnly Go.Departure.lateStores }], guard := none }) (v := ?_) rfl (by kernel_rfl) (by kernel_rfl) (by kernel_rfl) (fun _ _ _ h => h) (Or.inl ⟨by rfl, ?_⟩) (by assumption) ?_
  rotate_left
  · intro wS hSw
    have q16 := Has.n16 hSw
    have q17 := Has.n17 hSw
    clear hSw
    go_simp
    try with_reducible rfl
  try simp only [Act.put, List.setIfInBounds_toArray, List.set_cons_zero, List.set_cons_succ]
  refine wpAnyH_take (i := 6) (oi := { dst := some 75, op := Go.Op.fieldAddr 31 (Go.Operand.tmp 1) 8, type := 0, pos := "ref.go:25", after := #[{ on := 15, ground := Go.Ground.gcOnly Go.Departure.lateStores }], guard := none }) (v := ?_) rfl (by kernel_rfl) (by kernel_rfl) (by kernel_rfl) (fun _ _ _ h => h) (Or.inl ⟨by rfl, ?_⟩) (by assumption) ?_
  rotate_left
  · intro wS hSw
    clear hSw
    go_simp
    try with_reducible rfl
  try simp only [Act.put, List.setIfInBounds_toArray, List.set_cons_zero, List.set_cons_succ]
  refine wpAnyH_take (i := 7) (oi := { dst := some 76, op := Go.Op.load 27 (Go.Operand.tmp 75), type := 27, pos := "ref.go:25", after := #[{ on := 6, ground := Go.Ground.data }, { on := 15, ground := Go.Ground.gcOnly Go.Departure.lateStores }], guard := none }) (v := ?_) rfl (by kernel_rfl) (by kernel_rfl) (by kernel_rfl) (fun _ _ _ h => h) (Or.inl ⟨by rfl, ?_⟩) (by assumption) ?_
  rotate_left
  · intro wS hSw
    have q18 := Has.n18 hSw
    clear hSw
    go_simp
    try with_reducible rfl
  try simp only [Act.put, List.setIfInBounds_toArray, List.set_cons_zero, List.set_cons_succ]
  refine wpAnyH_take (i := 8) (oi := { dst := some 77, op := Go.Op.fieldAddr 31 (Go.Operand.tmp 1) 9, type := 0, pos := "ref.go:25", after := #[{ on := 17, ground := Go.Ground.gcOnly Go.Departure.lateStores }], guard := none }) (v := ?_) rfl (by kernel_rfl) (by kernel_rfl) (by kernel_rfl) (fun _ _ _ h => h) (Or.inl ⟨by rfl, ?_⟩) (by assumption) ?_
  rotate_left
  · intro wS hSw
    clear hSw
    go_simp
    try with_reducible rfl
  try simp only [Act.put, List.setIfInBounds_toArray, List.set_cons_zero, List.set_cons_succ]
  refine wpAnyH_take (i := 9) (oi := { dst := some 78, op := Go.Op.load 25 (Go.Operand.tmp 77), type := 25, pos := "ref.go:25", after := #[{ on := 8, ground := Go.Ground.data }, { on := 17, ground := Go.Ground.gcOnly Go.Departure.lateStores }], guard := none }) (v := ?_) rfl (by kernel_rfl) (by kernel_rfl) (by kernel_rfl) (fun _ _ _ h => h) (Or.inl ⟨by rfl, ?_⟩) (by assumption) ?_
  rotate_left
  · intro wS hSw
    have q19 := Has.n19 hSw
    clear hSw
    go_simp
    try with_reducible rfl
  try simp only [Act.put, List.setIfInBounds_toArray, List.set_cons_zero, List.set_cons_succ]
  have HY0 := HY
  have HX0 := HX
  have HZ0 := HZ
  have HB0 := HB
  clear HY HX HZ HB HX4 HY4 HZ4 HB4
  generalize W4.drew = V0 at *
  refine wpAnyH_take (i := 10) (oi := { dst := some 79, op := Go.Op.fieldAddr 31 (Go.Operand.tmp 4) 2, type := 0, pos := "ref.go:25", after := #[{ on := 0, ground := Go.Ground.phase }, { on := 1, ground := Go.Ground.phase }, { on := 2, ground := Go.Ground.textOnly Go.Departure.lateStores }, { on := 3, ground := Go.Ground.textOnly Go.Departure.lateStores }, { on := 4, ground := Go.Ground.textOnly Go.Departure.lateStores }, { on := 5, ground := Go.Ground.textOnly Go.Departure.lateStores }, { on := 6, ground := Go.Ground.textOnly Go.Departure.lateStores }, { on := 7, ground := Go.Ground.textOnly Go.Departure.lateStores }, { on := 8, ground := Go.Ground.textOnly Go.Departure.lateStores }, { on := 9, ground := Go.Ground.textOnly Go.Departure.lateStores }], guard := none }) (v := ?_) rfl (by kernel_rfl) (by kernel_rfl) (by kernel_rfl) (fun _ _ _ h => h) (Or.inl ⟨by rfl, ?_⟩) (by assumption) ?_
  rotate_left
  · intro wS hSw
    clear hSw
    go_simp
    try with_reducible rfl
  try simp only [Act.put, List.setIfInBounds_toArray, List.set_cons_zero, List.set_cons_succ]
  refine wpAnyH_ready (rs := [11]) (by kernel_rfl) (by simp) ?_
  refine AllReadyH.cons (o := { dst := none, op := Go.Op.store 24 (Go.Operand.tmp 79) (Go.Operand.tmp 70), type := 0, pos := "ref.go:25", after := #[{ on := 10, ground := Go.Ground.data }, { on := 1, ground := Go.Ground.data }, { on := 0, ground := Go.Ground.phase }, { on := 1, ground := Go.Ground.phase }, { on := 2, ground := Go.Ground.textOnly Go.Departure.lateStores }, { on := 3, ground := Go.Ground.textOnly Go.Departure.lateStores }, { on := 4, ground := Go.Ground.textOnly Go.Departure.lateStores }, { on := 5, ground := Go.Ground.textOnly Go.Departure.lateStores }, { on := 6, ground := Go.Ground.textOnly Go.Departure.lateStores }, { on := 7, ground := Go.Ground.textOnly Go.Departure.lateStores }, { on := 8, ground := Go.Ground.textOnly Go.Departure.lateStores }, { on := 9, ground := Go.Ground.textOnly Go.Departure.lateStores }], guard := none }) rfl (fun K hK => ?_) AllReadyH.nil
  rw [if_pos (by rfl)]
  refine wp_store_mid 24 (.tmp 79) (.tmp 70) rfl (w.heap.size + 1 + 1) 2 x.ev.toArray rfl rfl (HY0.out.there 2 10 (by simp [NL.cs])) esi_fitw (all_oneCell_toArray x.ev_one) ?_
  have HY1 := Lib.hid (Has.sets x.ev 2 _ _ HY0.out)
  have HX1 := Lib.hid (Has.far (g := (w.heap.size + 1 + 1)) (by omega) x.ev 2 _ HX0.out)
  have HZ1 := Lib.hid (Has.far (g := (w.heap.size + 1 + 1)) (by omega) x.ev 2 _ HZ0.out)
  have HB1 := Lib.hid (Below.sets (g := (w.heap.size + 1 + 1)) (by omega) x.ev 2 _ HB0.out)
  refine hK.out _ _ HX1.out (fun hHeld => ?_)
  clear hK K
  try simp only [Act.put, List.setIfInBounds_toArray, List.set_cons_zero, List.set_cons_succ]
  clear HX0 HY0 HZ0 HB0
  change wpAnyH _ _ _ _ _ _ _ _ (V0.setCells (w.heap.size + 1 + 1) 2 x.ev)
  generalize (V0.setCells (w.heap.size + 1 + 1) 2 x.ev) = V1 at *
  have hy1 := HY1.out
  simp only [Go.Proofs.Ythhajknmokomjaa.sets, NL.ev, NL.cs, NL.beg, List.setIfInBounds_toArray, List.set_cons_zero, List.set_cons_succ] at hy1
  clear HY1
  have HY1 := Lib.hid hy1
  clear hy1
  refine wpAnyH_take (i := 12) (oi := { dst := some 80, op := Go.Op.fieldAddr 31 (Go.Operand.tmp 4) 3, type := 0, pos := "ref.go:25", after := #[{ on := 0, ground := Go.Ground.phase }, { on := 1, ground := Go.Ground.phase }, { on := 2, ground := Go.Ground.phase }, { on := 3, ground := Go.Ground.phase }, { on := 4, ground := Go.Ground.textOnly Go.Departure.lateStores }, { on := 5, ground := Go.Ground.textOnly Go.Departure.lateStores }, { on := 6, ground := Go.Ground.textOnly Go.Departure.lateStores }, { on := 7, ground := Go.Ground.textOnly Go.Departure.lateStores }, { on := 8, ground := Go.Ground.textOnly Go.Departure.lateStores }, { on := 9, ground := Go.Ground.textOnly Go.Departure.lateStores }, { on := 10, ground := Go.Ground.phase }, { on := 11, ground := Go.Ground.phase }], guard := none }) (v := ?_) rfl (by kernel_rfl) (by kernel_rfl) (by kernel_rfl) (fun _ _ _ h => h) (Or.inl ⟨by rfl, ?_⟩) (by assumption) ?_
  rotate_left
  · intro wS hSw
    clear hSw
    go_simp
    try with_reducible rfl
  try simp only [Act.put, List.setIfInBounds_toArray, List.set_cons_zero, List.set_cons_succ]
  refine wpAnyH_ready (rs := [13]) (by kernel_rfl) (by simp) ?_
  refine AllReadyH.cons (o := { dst := none, op := Go.Op.store 25 (Go.Operand.tmp 80) (Go.Operand.tmp 72), type := 0, pos := "ref.go:25", after := #[{ on := 12, ground := Go.Ground.data }, { on := 3, ground := Go.Ground.data }, { on := 11, ground := Go.Ground.chain }, { on := 0, ground := Go.Ground.phase }, { on := 1, ground := Go.Ground.phase }, { on := 2, ground := Go.Ground.phase }, { on := 3, ground := Go.Ground.phase }, { on := 4, ground := Go.Ground.textOnly Go.Departure.lateStores }, { on := 5, ground := Go.Ground.textOnly Go.Departure.lateStores }, { on := 6, ground := Go.Ground.textOnly Go.Departure.lateStores }, { on := 7, ground := Go.Ground.textOnly Go.Departure.lateStores }, { on := 8, ground := Go.Ground.textOnly Go.Departure.lateStores }, { on := 9, ground := Go.Ground.textOnly Go.Departure.lateStores }, { on := 10, ground := Go.Ground.phase }, { on := 11, ground := Go.Ground.phase }], guard := none }) rfl (fun K hK => ?_) AllReadyH.nil
  have c12_12 : V1.cell? ⟨w.heap.size + 1 + 1, 12, none⟩ = some (.int .u32 0) := HY1.out.cell 12
  have f12_12 := HY1.out.free 12
  go_simp
  have HY2 := Lib.hid (HY1.out.set_ 12 (.int .u32 x.tag))
  have HX2 := Lib.hid (HX1.out.far1 (g := (w.heap.size + 1 + 1)) (i := 12) (v := .int .u32 x.tag) (by omega))
  have HZ2 := Lib.hid (HZ1.out.far1 (g := (w.heap.size + 1 + 1)) (i := 12) (v := .int .u32 x.tag) (by omega))
  have HB2 := Lib.hid (HB1.out.setCell (p := ⟨(w.heap.size + 1 + 1), 12, none⟩) (by show w.heap.size ≤ w.heap.size + 1 + 1; omega) (.int .u32 x.tag))
  clear c12_12 f12_12
  refine hK.out _ _ HX2.out (fun hHeld => ?_)
  clear hK K
  try simp only [Act.put, List.setIfInBounds_toArray, List.set_cons_zero, List.set_cons_succ]
  clear HX1 HY1 HZ1 HB1
  change wpAnyH _ _ _ _ _ _ _ _ (V1.setCell ⟨w.heap.size + 1 + 1, 12, none⟩ (.int .u32 x.tag))
  generalize (V1.setCell ⟨w.heap.size + 1 + 1, 12, none⟩ (.int .u32 x.tag)) = V2 at *
  have hy2 := HY2.out
  simp only [Go.Proofs.Ythhajknmokomjaa.sets, NL.ev, NL.cs, NL.beg, List.setIfInBounds_toArray, List.set_cons_zero, List.set_cons_succ] at hy2
  clear HY2
  have HY2 := Lib.hid hy2
  clear hy2
  refine wpAnyH_take (i := 14) (oi := { dst := some 81, op := Go.Op.fieldAddr 31 (Go.Operand.tmp 4) 7, type := 0, pos := "ref.go:25", after := #[{ on := 0, ground := Go.Ground.phase }, { on := 1, ground := Go.Ground.phase }, { on := 2, ground := Go.Ground.phase }, { on := 3, ground := Go.Ground.phase }, { on := 4, ground := Go.Ground.phase }, { on := 5, ground := Go.Ground.phase }, { on := 6, ground := Go.Ground.textOnly Go.Departure.lateStores }, { on := 7, ground := Go.Ground.textOnly Go.Departure.lateStores }, { on := 8, ground := Go.Ground.textOnly Go.Departure.lateStores }, { on := 9, ground := Go.Ground.textOnly Go.Departure.lateStores }, { on := 10, ground := Go.Ground.phase }, { on := 11, ground := Go.Ground.phase }, { on := 12, ground := Go.Ground.phase }, { on := 13, ground := Go.Ground.phase }], guard := none }) (v := ?_) rfl (by kernel_rfl) (by kernel_rfl) (by kernel_rfl) (fun _ _ _ h => h) (Or.inl ⟨by rfl, ?_⟩) (by assumption) ?_
  rotate_left
  · intro wS hSw
    clear hSw
    go_simp
    try with_reducible rfl
  try simp only [Act.put, List.setIfInBounds_toArray, List.set_cons_zero, List.set_cons_succ]
  refine wpAnyH_ready (rs := [15]) (by kernel_rfl) (by simp) ?_
  refine AllReadyH.cons (o := { dst := none, op := Go.Op.store 29 (Go.Operand.tmp 81) (Go.Operand.tmp 74), type := 0, pos := "ref.go:25", after := #[{ on := 14, ground := Go.Ground.data }, { on := 5, ground := Go.Ground.data }, { on := 13, ground := Go.Ground.chain }, { on := 0, ground := Go.Ground.phase }, { on := 1, ground := Go.Ground.phase }, { on := 2, ground := Go.Ground.phase }, { on := 3, ground := Go.Ground.phase }, { on := 4, ground := Go.Ground.phase }, { on := 5, ground := Go.Ground.phase }, { on := 6, ground := Go.Ground.textOnly Go.Departure.lateStores }, { on := 7, ground := Go.Ground.textOnly Go.Departure.lateStores }, { on := 8, ground := Go.Ground.textOnly Go.Departure.lateStores }, { on := 9, ground := Go.Ground.textOnly Go.Departure.lateStores }, { on := 10, ground := Go.Ground.phase }, { on := 11, ground := Go.Ground.phase }, { on := 12, ground := Go.Ground.phase }, { on := 13, ground := Go.Ground.phase }], guard := none }) rfl (fun K hK => ?_) AllReadyH.nil
  have c14_16 : V2.cell? ⟨w.heap.size + 1 + 1, 16, none⟩ = some (.int .u32 0) := HY2.out.cell 16
  have c14_17 : V2.cell? ⟨w.heap.size + 1 + 1, 17, none⟩ = some (.int .i64 0) := HY2.out.cell 17
  have f14_16 := HY2.out.free 16
  have f14_17 := HY2.out.free 17
  go_simp
  have HY3 := Lib.hid (HY2.out.set_ 16 (.int .u32 x.pip))
  have HX3 := Lib.hid (HX2.out.far1 (g := (w.heap.size + 1 + 1)) (i := 16) (v := .int .u32 x.pip) (by omega))
  have HZ3 := Lib.hid (HZ2.out.far1 (g := (w.heap.size + 1 + 1)) (i := 16) (v := .int .u32 x.pip) (by omega))
  have HB3 := Lib.hid (HB2.out.setCell (p := ⟨(w.heap.size + 1 + 1), 16, none⟩) (by show w.heap.size ≤ w.heap.size + 1 + 1; omega) (.int .u32 x.pip))
  have HY4 := Lib.hid (HY3.out.set_ 17 (.int .i64 x.pl))
  have HX4 := Lib.hid (HX3.out.far1 (g := (w.heap.size + 1 + 1)) (i := 17) (v := .int .i64 x.pl) (by omega))
  have HZ4 := Lib.hid (HZ3.out.far1 (g := (w.heap.size + 1 + 1)) (i := 17) (v := .int .i64 x.pl) (by omega))
  have HB4 := Lib.hid (HB3.out.setCell (p := ⟨(w.heap.size + 1 + 1), 17, none⟩) (by show w.heap.size ≤ w.heap.size + 1 + 1; omega) (.int .i64 x.pl))
  clear c14_16 f14_16 c14_17 f14_17
  refine hK.out _ _ HX4.out (fun hHeld => ?_)
  clear hK K
  try simp only [Act.put, List.setIfInBounds_toArray, List.set_cons_zero, List.set_cons_succ]
  clear HX2 HY2 HZ2 HB2 HX3 HY3 HZ3 HB3
  change wpAnyH _ _ _ _ _ _ _ _ ((V2.setCell ⟨w.heap.size + 1 + 1, 16, none⟩ (.int .u32 x.pip)).setCell ⟨w.heap.size + 1 + 1, 17, none⟩ (.int .i64 x.pl))
  generalize ((V2.setCell ⟨w.heap.size + 1 + 1, 16, none⟩ (.int .u32 x.pip)).setCell ⟨w.heap.size + 1 + 1, 17, none⟩ (.int .i64 x.pl)) = V3 at *
  have hy4 := HY4.out
  simp only [Go.Proofs.Ythhajknmokomjaa.sets, NL.ev, NL.cs, NL.beg, List.setIfInBounds_toArray, List.set_cons_zero, List.set_cons_succ] at hy4
  clear HY4
  have HY4 := Lib.hid hy4
  clear hy4
  refine wpAnyH_take (i := 16) (oi := { dst := some 82, op := Go.Op.fieldAddr 31 (Go.Operand.tmp 4) 8, type := 0, pos := "ref.go:25", after := #[{ on := 0, ground := Go.Ground.phase }, { on := 1, ground := Go.Ground.phase }, { on := 2, ground := Go.Ground.phase }, { on := 3, ground := Go.Ground.phase }, { on := 4, ground := Go.Ground.phase }, { on := 5, ground := Go.Ground.phase }, { on := 6, ground := Go.Ground.phase }, { on := 7, ground := Go.Ground.phase }, { on := 8, ground := Go.Ground.textOnly Go.Departure.lateStores }, { on := 9, ground := Go.Ground.textOnly Go.Departure.lateStores }, { on := 10, ground := Go.Ground.phase }, { on := 11, ground := Go.Ground.phase }, { on := 12, ground := Go.Ground.phase }, { on := 13, ground := Go.Ground.phase }, { on := 14, ground := Go.Ground.phase }, { on := 15, ground := Go.Ground.phase }], guard := none }) (v := ?_) rfl (by kernel_rfl) (by kernel_rfl) (by kernel_rfl) (fun _ _ _ h => h) (Or.inl ⟨by rfl, ?_⟩) (by assumption) ?_
  rotate_left
  · intro wS hSw
    clear hSw
    go_simp
    try with_reducible rfl
  try simp only [Act.put, List.setIfInBounds_toArray, List.set_cons_zero, List.set_cons_succ]
  refine wpAnyH_ready (rs := [17]) (by kernel_rfl) (by simp) ?_
  refine AllReadyH.cons (o := { dst := none, op := Go.Op.store 27 (Go.Operand.tmp 82) (Go.Operand.tmp 76), type := 0, pos := "ref.go:25", after := #[{ on := 16, ground := Go.Ground.data }, { on := 7, ground := Go.Ground.data }, { on := 15, ground := Go.Ground.chain }, { on := 0, ground := Go.Ground.phase }, { on := 1, ground := Go.Ground.phase }, { on := 2, ground := Go.Ground.phase }, { on := 3, ground := Go.Ground.phase }, { on := 4, ground := Go.Ground.phase }, { on := 5, ground := Go.Ground.phase }, { on := 6, ground := Go.Ground.phase }, { on := 7, ground := Go.Ground.phase }, { on := 8, ground := Go.Ground.textOnly Go.Departure.lateStores }, { on := 9, ground := Go.Ground.textOnly Go.Departure.lateStores }, { on := 10, ground := Go.Ground.phase }, { on := 11, ground := Go.Ground.phase }, { on := 12, ground := Go.Ground.phase }, { on := 13, ground := Go.Ground.phase }, { on := 14, ground := Go.Ground.phase }, { on := 15, ground := Go.Ground.phase }], guard := none }) rfl (fun K hK => ?_) AllReadyH.nil
  have c16_18 : V3.cell? ⟨w.heap.size + 1 + 1, 18, none⟩ = some (.int .u32 0) := HY4.out.cell 18
  have f16_18 := HY4.out.free 18
  go_simp
  have HY5 := Lib.hid (HY4.out.set_ 18 (.int .u32 x.gw))
  have HX5 := Lib.hid (HX4.out.far1 (g := (w.heap.size + 1 + 1)) (i := 18) (v := .int .u32 x.gw) (by omega))
  have HZ5 := Lib.hid (HZ4.out.far1 (g := (w.heap.size + 1 + 1)) (i := 18) (v := .int .u32 x.gw) (by omega))
  have HB5 := Lib.hid (HB4.out.setCell (p := ⟨(w.heap.size + 1 + 1), 18, none⟩) (by show w.heap.size ≤ w.heap.size + 1 + 1; omega) (.int .u32 x.gw))
  clear c16_18 f16_18
  refine hK.out _ _ HX5.out (fun hHeld => ?_)
  clear hK K
  try simp only [Act.put, List.setIfInBounds_toArray, List.set_cons_zero, List.set_cons_succ]
  clear HX4 HY4 HZ4 HB4
  change wpAnyH _ _ _ _ _ _ _ _ (V3.setCell ⟨w.heap.size + 1 + 1, 18, none⟩ (.int .u32 x.gw))
  generalize (V3.setCell ⟨w.heap.size + 1 + 1, 18, none⟩ (.int .u32 x.gw)) = V4 at *
  have hy5 := HY5.out
  simp only [Go.Proofs.Ythhajknmokomjaa.sets, NL.ev, NL.cs, NL.beg, List.setIfInBounds_toArray, List.set_cons_zero, List.set_cons_succ] at hy5
  clear HY5
  have HY5 := Lib.hid hy5
  clear hy5
  refine wpAnyH_take (i := 18) (oi := { dst := some 83, op := Go.Op.fieldAddr 31 (Go.Operand.tmp 4) 9, type := 0, pos := "ref.go:25", after := #[{ on := 0, ground := Go.Ground.phase }, { on := 1, ground := Go.Ground.phase }, { on := 2, ground := Go.Ground.phase }, { on := 3, ground := Go.Ground.phase }, { on := 4, ground := Go.Ground.phase }, { on := 5, ground := Go.Ground.phase }, { on := 6, ground := Go.Ground.phase }, { on := 7, ground := Go.Ground.phase }, { on := 8, ground := Go.Ground.phase }, { on := 9, ground := Go.Ground.phase }, { on := 10, ground := Go.Ground.phase }, { on := 11, ground := Go.Ground.phase }, { on := 12, ground := Go.Ground.phase }, { on := 13, ground := Go.Ground.phase }, { on := 14, ground := Go.Ground.phase }, { on := 15, ground := Go.Ground.phase }, { on := 16, ground := Go.Ground.phase }, { on := 17, ground := Go.Ground.phase }], guard := none }) (v := ?_) rfl (by kernel_rfl) (by kernel_rfl) (by kernel_rfl) (fun _ _ _ h => h) (Or.inl ⟨by rfl, ?_⟩) (by assumption) ?_
  rotate_left
  · intro wS hSw
    clear hSw
    go_simp
    try with_reducible rfl
  try simp only [Act.put, List.setIfInBounds_toArray, List.set_cons_zero, List.set_cons_succ]
  refine wpAnyH_ready (rs := [19]) (by kernel_rfl) (by simp) ?_
  refine AllReadyH.cons (o := { dst := none, op := Go.Op.store 25 (Go.Operand.tmp 83) (Go.Operand.tmp 78), type := 0, pos := "ref.go:25", after := #[{ on := 18, ground := Go.Ground.data }, { on := 9, ground := Go.Ground.data }, { on := 17, ground := Go.Ground.chain }, { on := 0, ground := Go.Ground.phase }, { on := 1, ground := Go.Ground.phase }, { on := 2, ground := Go.Ground.phase }, { on := 3, ground := Go.Ground.phase }, { on := 4, ground := Go.Ground.phase }, { on := 5, ground := Go.Ground.phase }, { on := 6, ground := Go.Ground.phase }, { on := 7, ground := Go.Ground.phase }, { on := 8, ground := Go.Ground.phase }, { on := 9, ground := Go.Ground.phase }, { on := 10, ground := Go.Ground.phase }, { on := 11, ground := Go.Ground.phase }, { on := 12, ground := Go.Ground.phase }, { on := 13, ground := Go.Ground.phase }, { on := 14, ground := Go.Ground.phase }, { on := 15, ground := Go.Ground.phase }, { on := 16, ground := Go.Ground.phase }, { on := 17, ground := Go.Ground.phase }], guard := none }) rfl (fun K hK => ?_) AllReadyH.nil
  have c18_19 : V4.cell? ⟨w.heap.size + 1 + 1, 19, none⟩ = some (.int .u32 0) := HY5.out.cell 19
  have f18_19 := HY5.out.free 19
  go_simp
  have HY6 := Lib.hid (HY5.out.set_ 19 (.int .u32 x.l1))
  have HX6 := Lib.hid (HX5.out.far1 (g := (w.heap.size + 1 + 1)) (i := 19) (v := .int .u32 x.l1) (by omega))
  have HZ6 := Lib.hid (HZ5.out.far1 (g := (w.heap.size + 1 + 1)) (i := 19) (v := .int .u32 x.l1) (by omega))
  have HB6 := Lib.hid (HB5.out.setCell (p := ⟨(w.heap.size + 1 + 1), 19, none⟩) (by show w.heap.size ≤ w.heap.size + 1 + 1; omega) (.int .u32 x.l1))
  clear c18_19 f18_19
  refine hK.out _ _ HX6.out (fun hHeld => ?_)
  clear hK K
  try simp only [Act.put, List.setIfInBounds_toArray, List.set_cons_zero, List.set_cons_succ]
  clear HX5 HY5 HZ5 HB5
  change wpAnyH _ _ _ _ _ _ _ _ (V4.setCell ⟨w.heap.size + 1 + 1, 19, none⟩ (.int .u32 x.l1))
  generalize (V4.setCell ⟨w.heap.size + 1 + 1, 19, none⟩ (.int .u32 x.l1)) = V5 at *
  have hy6 := HY6.out
  simp only [Go.Proofs.Ythhajknmokomjaa.sets, NL.ev, NL.cs, NL.beg, List.setIfInBounds_toArray, List.set_cons_zero, List.set_cons_succ] at hy6
  clear HY6
  have HY6 := Lib.hid hy6
  clear hy6
  refine wpAnyH_done (by kernel_rfl) ?_ _
  have hy := HY6.out
  have HYn : Hid (Has _ (w.heap.size + 1 + 1) 31 x.sh5.cs) := Lib.hid hy
  go_wp2_with (first
    | (refine wpList_load_row rfl 31 (.tmp 4) rfl (w.heap.size + 1 + 1) rfl 31 x.sh5.cs (0, 0) _ HYn.out Try.underlying31 rfl x.sh5.fit ?_)
    | (refine wpList_store_row rfl 31 (.tmp 2) (.tmp 84) rfl (w.heap.size + 1) x.sh5.cs rfl rfl 31 zcs HZ6.out x.sh5.fit rfl x.sh5.one ?_))
  exact bodyPost_ret (v := .tuple #[.agg x.sh5.cs, .bool true]) (results_cell_row_tmp rfl _ _ (w.heap.size + 1) 31 x.sh5.cs (0, 0) _ _ rfl rfl (setRow_heap _ _ _ _ _ _ HZ6.out) Try.underlying31 rfl x.sh5.fit) rfl ⟨rfl, setRow_below HB6.out (by omega) HB6.out.size⟩

set_option maxHeartbeats 1000000 in
theorem ronly_no (x : NL) (h : x.k < 1 ∨ 5 < x.k) (w : World) : Calls Try.prog 29 #[.agg x.cs] w fun e w' => e = .returned (.tuple #[.agg x.beg.cs, .bool false]) ∧ Below w.heap.size w w' := by
  have hx3 : Has (((w.alloc (.cells x.cs 31)).alloc (.cells zcs 31)).alloc (.cells zcs 31)) w.heap.size 31 x.cs := ((Has.new w 31 x.cs).below ((Below.refl _ _).alloc (Nat.le_refl _) _)).below ((Below.refl _ _).alloc (Nat.le_refl _) _)
  have hz3 : Has (((w.alloc (.cells x.cs 31)).alloc (.cells zcs 31)).alloc (.cells zcs 31)) (w.heap.size + 1) 31 zcs := by
    have h := (Has.new (w.alloc (.cells x.cs 31)) 31 zcs).below ((Below.refl _ _).alloc (Nat.le_refl _) (.cells zcs 31))
    simpa using h
  have HY3 : Hid (Has (((w.alloc (.cells x.cs 31)).alloc (.cells zcs 31)).alloc (.cells zcs 31)) (w.heap.size + 1 + 1) 31 zcs) := Lib.hid (by
    have h := Has.new ((w.alloc (.cells x.cs 31)).alloc (.cells zcs 31)) 31 zcs
    simpa using h)
  have hb3 : Below w.heap.size w (((w.alloc (.cells x.cs 31)).alloc (.cells zcs 31)).alloc (.cells zcs 31)) := (((Below.refl _ w).alloc (Nat.le_refl _) _).alloc (by simp) _).alloc (by simp; omega) _
  have HX4 : Hid (Has ((((w.alloc (.cells x.cs 31)).alloc (.cells zcs 31)).alloc (.cells zcs 31)).setRow (w.heap.size + 1 + 1) x.beg.cs) w.heap.size 31 x.cs) := Lib.hid (hx3.grown (Only.row (h := w.heap.size + 1 + 1) x.beg.cs) (by intro h; injection h with h; omega))
  have HZ4 : Hid (Has ((((w.alloc (.cells x.cs 31)).alloc (.cells zcs 31)).alloc (.cells zcs 31)).setRow (w.heap.size + 1 + 1) x.beg.cs) (w.heap.size + 1) 31 zcs) := Lib.hid (hz3.grown (Only.row (h := w.heap.size + 1 + 1) x.beg.cs) (by intro h; injection h with h; omega))
  have HY4 : Hid (Has ((((w.alloc (.cells x.cs 31)).alloc (.cells zcs 31)).alloc (.cells zcs 31)).setRow (w.heap.size + 1 + 1) x.beg.cs) (w.heap.size + 1 + 1) 31 x.beg.cs) := Lib.hid (setRow_heap _ _ _ _ _ _ HY3.out)
  have HB4 : Hid (Below w.heap.size w ((((w.alloc (.cells x.cs 31)).alloc (.cells zcs 31)).alloc (.cells zcs 31)).setRow (w.heap.size + 1 + 1) x.beg.cs)) := Lib.hid (setRow_below hb3 (by omega) hb3.size)
  have x0 : x.cs[0]? = some (.int .i64 x.k) := rfl
  have x1 : x.cs[1]? = some (.int .u64 x.rd) := rfl
  have hn1 : decide (x.k = 1) = false := by simp; omega
  have hn2 : decide (x.k = 2) = false := by simp; omega
  have hn3 : decide (x.k = 3) = false := by simp; omega
  have hn4 : decide (x.k = 4) = false := by simp; omega
  have hn5 : decide (x.k = 5) = false := by simp; omega
  have hm1 : (x.k == 1) = false := by simp; omega
  have hm2 : (x.k == 2) = false := by simp; omega
  have hm3 : (x.k == 3) = false := by simp; omega
  have hm4 : (x.k == 4) = false := by simp; omega
  have hm5 : (x.k == 5) = false := by simp; omega
  clear hx3 hz3 hb3 h
  go_enter Try.func29, Try.ntmps29
  go_upto_region 2 with (refine wpList_store_row rfl 31 (.tmp 4) (.tmp 9) rfl (w.heap.size + 1 + 1) x.beg.cs rfl rfl 31 zcs HY3.out x.beg.fit rfl x.beg.one ?_)
  clear HY3
  generalize ((((w.alloc (.cells x.cs 31)).alloc (.cells zcs 31)).alloc (.cells zcs 31)).setRow (w.heap.size + 1 + 1) x.beg.cs) = W4 at *
  have c0 : W4.cell? ⟨w.heap.size, 0, none⟩ = some (.int .i64 x.k) := HX4.out.n0
  go_wp2_with (first
    | (refine wpList_load_row rfl 31 (.tmp 4) rfl (w.heap.size + 1 + 1) rfl 31 x.beg.cs (0, 0) _ HY4.out Try.underlying31 rfl x.beg.fit ?_)
    | (refine wpList_store_row rfl 31 (.tmp 2) (.tmp 12) rfl (w.heap.size + 1) x.beg.cs rfl rfl 31 zcs HZ4.out x.beg.fit rfl x.beg.one ?_))
  exact bodyPost_ret (v := .tuple #[.agg x.beg.cs, .bool false]) (results_cell_row_tmp rfl _ _ (w.heap.size + 1) 31 x.beg.cs (0, 0) _ _ rfl rfl (setRow_heap _ _ _ _ _ _ HZ4.out) Try.underlying31 rfl x.beg.fit) rfl ⟨rfl, setRow_below HB4.out (by omega) HB4.out.size⟩

set_option maxHeartbeats 1000000 in
theorem ronly_2false (x : NL) (hk : x.k = 2) (hh : x.has = false) (w : World) : Calls Try.prog 29 #[.agg x.cs] w fun e w' => e = .returned (.tuple #[.agg x.sh2.cs, .bool true]) ∧ Below w.heap.size w w' := by
  have hx3 : Has (((w.alloc (.cells x.cs 31)).alloc (.cells zcs 31)).alloc (.cells zcs 31)) w.heap.size 31 x.cs := ((Has.new w 31 x.cs).below ((Below.refl _ _).alloc (Nat.le_refl _) _)).below ((Below.refl _ _).alloc (Nat.le_refl _) _)
  have hz3 : Has (((w.alloc (.cells x.cs 31)).alloc (.cells zcs 31)).alloc (.cells zcs 31)) (w.heap.size + 1) 31 zcs := by
    have h := (Has.new (w.alloc (.cells x.cs 31)) 31 zcs).below ((Below.refl _ _).alloc (Nat.le_refl _) (.cells zcs 31))
    simpa using h
  have HY3 : Hid (Has (((w.alloc (.cells x.cs 31)).alloc (.cells zcs 31)).alloc (.cells zcs 31)) (w.heap.size + 1 + 1) 31 zcs) := Lib.hid (by
    have h := Has.new ((w.alloc (.cells x.cs 31)).alloc (.cells zcs 31)) 31 zcs
    simpa using h)
  have hb3 : Below w.heap.size w (((w.alloc (.cells x.cs 31)).alloc (.cells zcs 31)).alloc (.cells zcs 31)) := (((Below.refl _ w).alloc (Nat.le_refl _) _).alloc (by simp) _).alloc (by simp; omega) _
  have HX4 : Hid (Has ((((w.alloc (.cells x.cs 31)).alloc (.cells zcs 31)).alloc (.cells zcs 31)).setRow (w.heap.size + 1 + 1) x.beg.cs) w.heap.size 31 x.cs) := Lib.hid (hx3.grown (Only.row (h := w.heap.size + 1 + 1) x.beg.cs) (by intro h; injection h with h; omega))
  have HZ4 : Hid (Has ((((w.alloc (.cells x.cs 31)).alloc (.cells zcs 31)).alloc (.cells zcs 31)).setRow (w.heap.size + 1 + 1) x.beg.cs) (w.heap.size + 1) 31 zcs) := Lib.hid (hz3.grown (Only.row (h := w.heap.size + 1 + 1) x.beg.cs) (by intro h; injection h with h; omega))
  have HY4 : Hid (Has ((((w.alloc (.cells x.cs 31)).alloc (.cells zcs 31)).alloc (.cells zcs 31)).setRow (w.heap.size + 1 + 1) x.beg.cs) (w.heap.size + 1 + 1) 31 x.beg.cs) := Lib.hid (setRow_heap _ _ _ _ _ _ HY3.out)
  have HB4 : Hid (Below w.heap.size w ((((w.alloc (.cells x.cs 31)).alloc (.cells zcs 31)).alloc (.cells zcs 31)).setRow (w.heap.size + 1 + 1) x.beg.cs)) := Lib.hid (setRow_below hb3 (by omega) hb3.size)
  have x0 : x.cs[0]? = some (.int .i64 x.k) := rfl
  have x1 : x.cs[1]? = some (.int .u64 x.rd) := rfl
  have HK := Lib.hid hk
  have HH := Lib.hid hh
  clear hx3 hz3 hb3 hk hh
  go_enter Try.func29, Try.ntmps29
  go_upto_region 2 with (refine wpList_store_row rfl 31 (.tmp 4) (.tmp 9) rfl (w.heap.size + 1 + 1) x.beg.cs rfl rfl 31 zcs HY3.out x.beg.fit rfl x.beg.one ?_)
  clear HY3
  generalize ((((w.alloc (.cells x.cs 31)).alloc (.cells zcs 31)).alloc (.cells zcs 31)).setRow (w.heap.size + 1 + 1) x.beg.cs) = W4 at *
  have c0 : W4.cell? ⟨w.heap.size, 0, none⟩ = some (.int .i64 2) := HX4.out.n0.trans (congrArg (fun z => some (Value.int .i64 z)) HK.out)
  go_upto_region 7 with fail
  clear c0 x0 x1
  have HX : Hid (Has W4.drew w.heap.size 31 x.cs) := Lib.hid (HX4.out.below (Below.refl _ W4).drew)
  have HZ : Hid (Has W4.drew (w.heap.size + 1) 31 zcs) := Lib.hid (HZ4.out.below (Below.refl _ W4).drew)
  have HY : Hid (Has W4.drew (w.heap.size + 1 + 1) 31 x.beg.cs) := Lib.hid (HY4.out.below (Below.refl _ W4).drew)
  have HB : Hid (Below w.heap.size w W4.drew) := Lib.hid HB4.out.drew
  refine wp_region_held_drew (S := (fun w' => Has w' w.heap.size 31 x.cs)) (by kernel_rfl) HX.out (fun hHeld => ?_)
  refine wpAnyH_take (i := 0) (oi := { dst := some 26, op := Go.Op.fieldAddr 31 (Go.Operand.tmp 1) 2, type := 0, pos := "ref.go:16", after := #[], guard := none }) (v := ?_) rfl (by kernel_rfl) (by kernel_rfl) (by kernel_rfl) (fun _ _ _ h => h) (Or.inl ⟨by rfl, ?_⟩) (by assumption) ?_
  rotate_left
  · intro wS hSw
    clear hSw
    go_simp
    try with_reducible rfl
  try simp only [Act.put, List.setIfInBounds_toArray, List.set_cons_zero, List.set_cons_succ]
  refine wpAnyH_take (i := 1) (oi := { dst := some 27, op := Go.Op.load 24 (Go.Operand.tmp 26), type := 24, pos := "ref.go:16", after := #[{ on := 0, ground := Go.Ground.data }], guard := none }) (v := .agg x.ev.toArray) rfl (by kernel_rfl) (by kernel_rfl) (by kernel_rfl) (fun _ _ _ h => h) (yieldsIf_load_mid (by rfl) 24 (.tmp 26) rfl w.heap.size 2 rfl x.ev _ (fun _ h => has_esi h) Try.underlying24 rfl esi_fitv) (by assumption) ?_
  try simp only [Act.put, List.setIfInBounds_toArray, List.set_cons_zero, List.set_cons_succ]
  refine wpAnyH_take (i := 2) (oi := { dst := some 28, op := Go.Op.fieldAddr 31 (Go.Operand.tmp 1) 3, type := 0, pos := "ref.go:16", after := #[{ on := 13, ground := Go.Ground.gcOnly Go.Departure.lateStores }], guard := none }) (v := ?_) rfl (by kernel_rfl) (by kernel_rfl) (by kernel_rfl) (fun _ _ _ h => h) (Or.inl ⟨by rfl, ?_⟩) (by assumption) ?_
  rotate_left
  · intro wS hSw
    clear hSw
    go_simp
    try with_reducible rfl
  try simp only [Act.put, List.setIfInBounds_toArray, List.set_cons_zero, List.set_cons_succ]
  refine wpAnyH_take (i := 3) (oi := { dst := some 29, op := Go.Op.load 25 (Go.Operand.tmp 28), type := 25, pos := "ref.go:16", after := #[{ on := 2, ground := Go.Ground.data }, { on := 13, ground := Go.Ground.gcOnly Go.Departure.lateStores }], guard := none }) (v := ?_) rfl (by kernel_rfl) (by kernel_rfl) (by kernel_rfl) (fun _ _ _ h => h) (Or.inl ⟨by rfl, ?_⟩) (by assumption) ?_
  rotate_left
  · intro wS hSw
    have q12 := Has.n12 hSw
    clear hSw
    go_simp
    try with_reducible rfl
  try simp only [Act.put, List.setIfInBounds_toArray, List.set_cons_zero, List.set_cons_succ]
  refine wpAnyH_take (i := 4) (oi := { dst := some 30, op := Go.Op.fieldAddr 31 (Go.Operand.tmp 1) 4, type := 0, pos := "ref.go:16", after := #[{ on := 15, ground := Go.Ground.gcOnly Go.Departure.lateStores }], guard := none }) (v := ?_) rfl (by kernel_rfl) (by kernel_rfl) (by kernel_rfl) (fun _ _ _ h => h) (Or.inl ⟨by rfl, ?_⟩) (by assumption) ?_
  rotate_left
  · intro wS hSw
    clear hSw
    go_simp
    try with_reducible rfl
  try simp only [Act.put, List.setIfInBounds_toArray, List.set_cons_zero, List.set_cons_succ]
  refine wpAnyH_take (i := 5) (oi := { dst := some 31, op := Go.Op.load 26 (Go.Operand.tmp 30), type := 26, pos := "ref.go:16", after := #[{ on := 4, ground := Go.Ground.data }, { on := 15, ground := Go.Ground.gcOnly Go.Departure.lateStores }], guard := none }) (v := ?_) rfl (by kernel_rfl) (by kernel_rfl) (by kernel_rfl) (fun _ _ _ h => h) (Or.inl ⟨by rfl, ?_⟩) (by assumption) ?_
  rotate_left
  · intro wS hSw
    have q13 := Has.n13 hSw
    clear hSw
    go_simp
    try with_reducible rfl
  try simp only [Act.put, List.setIfInBounds_toArray, List.set_cons_zero, List.set_cons_succ]
  refine wpAnyH_take (i := 6) (oi := { dst := some 32, op := Go.Op.fieldAddr 31 (Go.Operand.tmp 1) 6, type := 0, pos := "ref.go:16", after := #[{ on := 17, ground := Go.Ground.gcOnly Go.Departure.lateStores }], guard := none }) (v := ?_) rfl (by kernel_rfl) (by kernel_rfl) (by kernel_rfl) (fun _ _ _ h => h) (Or.inl ⟨by rfl, ?_⟩) (by assumption) ?_
  rotate_left
  · intro wS hSw
    clear hSw
    go_simp
    try with_reducible rfl
  try simp only [Act.put, List.setIfInBounds_toArray, List.set_cons_zero, List.set_cons_succ]
  refine wpAnyH_take (i := 7) (oi := { dst := some 33, op := Go.Op.load 4 (Go.Operand.tmp 32), type := 4, pos := "ref.go:16", after := #[{ on := 6, ground := Go.Ground.data }, { on := 17, ground := Go.Ground.gcOnly Go.Departure.lateStores }], guard := none }) (v := ?_) rfl (by kernel_rfl) (by kernel_rfl) (by kernel_rfl) (fun _ _ _ h => h) (Or.inl ⟨by rfl, ?_⟩) (by assumption) ?_
  rotate_left
  · intro wS hSw
    have q15 := Has.n15 hSw
    clear hSw
    go_simp
    try with_reducible rfl
  try simp only [Act.put, List.setIfInBounds_toArray, List.set_cons_zero, List.set_cons_succ]
  refine wpAnyH_take (i := 8) (oi := { dst := some 34, op := Go.Op.fieldAddr 31 (Go.Operand.tmp 1) 9, type := 0, pos := "ref.go:16", after := #[{ on := 19, ground := Go.Ground.gcOnly Go.Departure.lateStores }], guard := none }) (v := ?_) rfl (by kernel_rfl) (by kernel_rfl) (by kernel_rfl) (fun _ _ _ h => h) (Or.inl ⟨by rfl, ?_⟩) (by assumption) ?_
  rotate_left
  · intro wS hSw
    clear hSw
    go_simp
    try with_reducible rfl
  try simp only [Act.put, List.setIfInBounds_toArray, List.set_cons_zero, List.set_cons_succ]
  refine wpAnyH_take (i := 9) (oi := { dst := some 35, op := Go.Op.load 25 (Go.Operand.tmp 34), type := 25, pos := "ref.go:16", after := #[{ on := 8, ground := Go.Ground.data }, { on := 19, ground := Go.Ground.gcOnly Go.Departure.lateStores }], guard := none }) (v := ?_) rfl (by kernel_rfl) (by kernel_rfl) (by kernel_rfl) (fun _ _ _ h => h) (Or.inl ⟨by rfl, ?_⟩) (by assumption) ?_
  rotate_left
  · intro wS hSw
    have q19 := Has.n19 hSw
    clear hSw
    go_simp
    try with_reducible rfl
  try simp only [Act.put, List.setIfInBounds_toArray, List.set_cons_zero, List.set_cons_succ]
  refine wpAnyH_take (i := 10) (oi := { dst := some 36, op := Go.Op.fieldAddr 31 (Go.Operand.tmp 1) 10, type := 0, pos := "ref.go:16", after := #[{ on := 21, ground := Go.Ground.gcOnly Go.Departure.lateStores }], guard := none }) (v := ?_) rfl (by kernel_rfl) (by kernel_rfl) (by kernel_rfl) (fun _ _ _ h => h) (Or.inl ⟨by rfl, ?_⟩) (by assumption) ?_
  rotate_left
  · intro wS hSw
    clear hSw
    go_simp
    try with_reducible rfl
  try simp only [Act.put, List.setIfInBounds_toArray, List.set_cons_zero, List.set_cons_succ]
  refine wpAnyH_take (i := 11) (oi := { dst := some 37, op := Go.Op.load 25 (Go.Operand.tmp 36), type := 25, pos := "ref.go:16", after := #[{ on := 10, ground := Go.Ground.data }, { on := 21, ground := Go.Ground.gcOnly Go.Departure.lateStores }], guard := none }) (v := ?_) rfl (by kernel_rfl) (by kernel_rfl) (by kernel_rfl) (fun _ _ _ h => h) (Or.inl ⟨by rfl, ?_⟩) (by assumption) ?_
  rotate_left
  · intro wS hSw
    have q20 := Has.n20 hSw
    clear hSw
    go_simp
    try with_reducible rfl
  try simp only [Act.put, List.setIfInBounds_toArray, List.set_cons_zero, List.set_cons_succ]
  have HY0 := HY
  have HX0 := HX
  have HZ0 := HZ
  have HB0 := HB
  clear HY HX HZ HB HX4 HY4 HZ4 HB4
  generalize W4.drew = V0 at *
  refine wpAnyH_take (i := 12) (oi := { dst := some 38, op := Go.Op.fieldAddr 31 (Go.Operand.tmp 4) 2, type := 0, pos := "ref.go:16", after := #[{ on := 0, ground := Go.Ground.phase }, { on := 1, ground := Go.Ground.phase }, { on := 2, ground := Go.Ground.textOnly Go.Departure.lateStores }, { on := 3, ground := Go.Ground.textOnly Go.Departure.lateStores }, { on := 4, ground := Go.Ground.textOnly Go.Departure.lateStores }, { on := 5, ground := Go.Ground.textOnly Go.Departure.lateStores }, { on := 6, ground := Go.Ground.textOnly Go.Departure.lateStores }, { on := 7, ground := Go.Ground.textOnly Go.Departure.lateStores }, { on := 8, ground := Go.Ground.textOnly Go.Departure.lateStores }, { on := 9, ground := Go.Ground.textOnly Go.Departure.lateStores }, { on := 10, ground := Go.Ground.textOnly Go.Departure.lateStores }, { on := 11, ground := Go.Ground.textOnly Go.Departure.lateStores }], guard := none }) (v := ?_) rfl (by kernel_rfl) (by kernel_rfl) (by kernel_rfl) (fun _ _ _ h => h) (Or.inl ⟨by rfl, ?_⟩) (by assumption) ?_
  rotate_left
  · intro wS hSw
    clear hSw
    go_simp
    try with_reducible rfl
  try simp only [Act.put, List.setIfInBounds_toArray, List.set_cons_zero, List.set_cons_succ]
  refine wpAnyH_ready (rs := [13]) (by kernel_rfl) (by simp) ?_
  refine AllReadyH.cons (o := { dst := none, op := Go.Op.store 24 (Go.Operand.tmp 38) (Go.Operand.tmp 27), type := 0, pos := "ref.go:16", after := #[{ on := 12, ground := Go.Ground.data }, { on := 1, ground := Go.Ground.data }, { on := 0, ground := Go.Ground.phase }, { on := 1, ground := Go.Ground.phase }, { on := 2, ground := Go.Ground.textOnly Go.Departure.lateStores }, { on := 3, ground := Go.Ground.textOnly Go.Departure.lateStores }, { on := 4, ground := Go.Ground.textOnly Go.Departure.lateStores }, { on := 5, ground := Go.Ground.textOnly Go.Departure.lateStores }, { on := 6, ground := Go.Ground.textOnly Go.Departure.lateStores }, { on := 7, ground := Go.Ground.textOnly Go.Departure.lateStores }, { on := 8, ground := Go.Ground.textOnly Go.Departure.lateStores }, { on := 9, ground := Go.Ground.textOnly Go.Departure.lateStores }, { on := 10, ground := Go.Ground.textOnly Go.Departure.lateStores }, { on := 11, ground := Go.Ground.textOnly Go.Departure.lateStores }], guard := none }) rfl (fun K hK => ?_) AllReadyH.nil
  rw [if_pos (by rfl)]
  refine wp_store_mid 24 (.tmp 38) (.tmp 27) rfl (w.heap.size + 1 + 1) 2 x.ev.toArray rfl rfl (HY0.out.there 2 10 (by simp [NL.cs])) esi_fitw (all_oneCell_toArray x.ev_one) ?_
  have HY1 := Lib.hid (Has.sets x.ev 2 _ _ HY0.out)
  have HX1 := Lib.hid (Has.far (g := (w.heap.size + 1 + 1)) (by omega) x.ev 2 _ HX0.out)
  have HZ1 := Lib.hid (Has.far (g := (w.heap.size + 1 + 1)) (by omega) x.ev 2 _ HZ0.out)
  have HB1 := Lib.hid (Below.sets (g := (w.heap.size + 1 + 1)) (by omega) x.ev 2 _ HB0.out)
  refine hK.out _ _ HX1.out (fun hHeld => ?_)
  clear hK K
  try simp only [Act.put, List.setIfInBounds_toArray, List.set_cons_zero, List.set_cons_succ]
  clear HX0 HY0 HZ0 HB0
  change wpAnyH _ _ _ _ _ _ _ _ (V0.setCells (w.heap.size + 1 + 1) 2 x.ev)
  generalize (V0.setCells (w.heap.size + 1 + 1) 2 x.ev) = V1 at *
  have hy1 := HY1.out
  simp only [Go.Proofs.Ythhajknmokomjaa.sets, NL.ev, NL.cs, NL.beg, List.setIfInBounds_toArray, List.set_cons_zero, List.set_cons_succ] at hy1
  clear HY1
  have HY1 := Lib.hid hy1
  clear hy1
  refine wpAnyH_take (i := 14) (oi := { dst := some 39, op := Go.Op.fieldAddr 31 (Go.Operand.tmp 4) 3, type := 0, pos := "ref.go:16", after := #[{ on := 0, ground := Go.Ground.phase }, { on := 1, ground := Go.Ground.phase }, { on := 2, ground := Go.Ground.phase }, { on := 3, ground := Go.Ground.phase }, { on := 4, ground := Go.Ground.textOnly Go.Departure.lateStores }, { on := 5, ground := Go.Ground.textOnly Go.Departure.lateStores }, { on := 6, ground := Go.Ground.textOnly Go.Departure.lateStores }, { on := 7, ground := Go.Ground.textOnly Go.Departure.lateStores }, { on := 8, ground := Go.Ground.textOnly Go.Departure.lateStores }, { on := 9, ground := Go.Ground.textOnly Go.Departure.lateStores }, { on := 10, ground := Go.Ground.textOnly Go.Departure.lateStores }, { on := 11, ground := Go.Ground.textOnly Go.Departure.lateStores }, { on := 12, ground := Go.Ground.phase }, { on := 13, ground := Go.Ground.phase }], guard := none }) (v := ?_) rfl (by kernel_rfl) (by kernel_rfl) (by kernel_rfl) (fun _ _ _ h => h) (Or.inl ⟨by rfl, ?_⟩) (by assumption) ?_
  rotate_left
  · intro wS hSw
    clear hSw
    go_simp
    try with_reducible rfl
  try simp only [Act.put, List.setIfInBounds_toArray, List.set_cons_zero, List.set_cons_succ]
  refine wpAnyH_ready (rs := [15]) (by kernel_rfl) (by simp) ?_
  refine AllReadyH.cons (o := { dst := none, op := Go.Op.store 25 (Go.Operand.tmp 39) (Go.Operand.tmp 29), type := 0, pos := "ref.go:16", after := #[{ on := 14, ground := Go.Ground.data }, { on := 3, ground := Go.Ground.data }, { on := 13, ground := Go.Ground.chain }, { on := 0, ground := Go.Ground.phase }, { on := 1, ground := Go.Ground.phase }, { on := 2, ground := Go.Ground.phase }, { on := 3, ground := Go.Ground.phase }, { on := 4, ground := Go.Ground.textOnly Go.Departure.lateStores }, { on := 5, ground := Go.Ground.textOnly Go.Departure.lateStores }, { on := 6, ground := Go.Ground.textOnly Go.Departure.lateStores }, { on := 7, ground := Go.Ground.textOnly Go.Departure.lateStores }, { on := 8, ground := Go.Ground.textOnly Go.Departure.lateStores }, { on := 9, ground := Go.Ground.textOnly Go.Departure.lateStores }, { on := 10, ground := Go.Ground.textOnly Go.Departure.lateStores }, { on := 11, ground := Go.Ground.textOnly Go.Departure.lateStores }, { on := 12, ground := Go.Ground.phase }, { on := 13, ground := Go.Ground.phase }], guard := none }) rfl (fun K hK => ?_) AllReadyH.nil
  have c14_12 : V1.cell? ⟨w.heap.size + 1 + 1, 12, none⟩ = some (.int .u32 0) := HY1.out.cell 12
  have f14_12 := HY1.out.free 12
  go_simp
  have HY2 := Lib.hid (HY1.out.set_ 12 (.int .u32 x.tag))
  have HX2 := Lib.hid (HX1.out.far1 (g := (w.heap.size + 1 + 1)) (i := 12) (v := .int .u32 x.tag) (by omega))
  have HZ2 := Lib.hid (HZ1.out.far1 (g := (w.heap.size + 1 + 1)) (i := 12) (v := .int .u32 x.tag) (by omega))
  have HB2 := Lib.hid (HB1.out.setCell (p := ⟨(w.heap.size + 1 + 1), 12, none⟩) (by show w.heap.size ≤ w.heap.size + 1 + 1; omega) (.int .u32 x.tag))
  clear c14_12 f14_12
  refine hK.out _ _ HX2.out (fun hHeld => ?_)
  clear hK K
  try simp only [Act.put, List.setIfInBounds_toArray, List.set_cons_zero, List.set_cons_succ]
  clear HX1 HY1 HZ1 HB1
  change wpAnyH _ _ _ _ _ _ _ _ (V1.setCell ⟨w.heap.size + 1 + 1, 12, none⟩ (.int .u32 x.tag))
  generalize (V1.setCell ⟨w.heap.size + 1 + 1, 12, none⟩ (.int .u32 x.tag)) = V2 at *
  have hy2 := HY2.out
  simp only [Go.Proofs.Ythhajknmokomjaa.sets, NL.ev, NL.cs, NL.beg, List.setIfInBounds_toArray, List.set_cons_zero, List.set_cons_succ] at hy2
  clear HY2
  have HY2 := Lib.hid hy2
  clear hy2
  refine wpAnyH_take (i := 16) (oi := { dst := some 40, op := Go.Op.fieldAddr 31 (Go.Operand.tmp 4) 4, type := 0, pos := "ref.go:16", after := #[{ on := 0, ground := Go.Ground.phase }, { on := 1, ground := Go.Ground.phase }, { on := 2, ground := Go.Ground.phase }, { on := 3, ground := Go.Ground.phase }, { on := 4, ground := Go.Ground.phase }, { on := 5, ground := Go.Ground.phase }, { on := 6, ground := Go.Ground.textOnly Go.Departure.lateStores }, { on := 7, ground := Go.Ground.textOnly Go.Departure.lateStores }, { on := 8, ground := Go.Ground.textOnly Go.Departure.lateStores }, { on := 9, ground := Go.Ground.textOnly Go.Departure.lateStores }, { on := 10, ground := Go.Ground.textOnly Go.Departure.lateStores }, { on := 11, ground := Go.Ground.textOnly Go.Departure.lateStores }, { on := 12, ground := Go.Ground.phase }, { on := 13, ground := Go.Ground.phase }, { on := 14, ground := Go.Ground.phase }, { on := 15, ground := Go.Ground.phase }], guard := none }) (v := ?_) rfl (by kernel_rfl) (by kernel_rfl) (by kernel_rfl) (fun _ _ _ h => h) (Or.inl ⟨by rfl, ?_⟩) (by assumption) ?_
  rotate_left
  · intro wS hSw
    clear hSw
    go_simp
    try with_reducible rfl
  try simp only [Act.put, List.setIfInBounds_toArray, List.set_cons_zero, List.set_cons_succ]
  refine wpAnyH_ready (rs := [17]) (by kernel_rfl) (by simp) ?_
  refine AllReadyH.cons (o := { dst := none, op := Go.Op.store 26 (Go.Operand.tmp 40) (Go.Operand.tmp 31), type := 0, pos := "ref.go:16", after := #[{ on := 16, ground := Go.Ground.data }, { on := 5, ground := Go.Ground.data }, { on := 15, ground := Go.Ground.chain }, { on := 0, ground := Go.Ground.phase }, { on := 1, ground := Go.Ground.phase }, { on := 2, ground := Go.Ground.phase }, { on := 3, ground := Go.Ground.phase }, { on := 4, ground := Go.Ground.phase }, { on := 5, ground := Go.Ground.phase }, { on := 6, ground := Go.Ground.textOnly Go.Departure.lateStores }, { on := 7, ground := Go.Ground.textOnly Go.Departure.lateStores }, { on := 8, ground := Go.Ground.textOnly Go.Departure.lateStores }, { on := 9, ground := Go.Ground.textOnly Go.Departure.lateStores }, { on := 10, ground := Go.Ground.textOnly Go.Departure.lateStores }, { on := 11, ground := Go.Ground.textOnly Go.Departure.lateStores }, { on := 12, ground := Go.Ground.phase }, { on := 13, ground := Go.Ground.phase }, { on := 14, ground := Go.Ground.phase }, { on := 15, ground := Go.Ground.phase }], guard := none }) rfl (fun K hK => ?_) AllReadyH.nil
  have c16_13 : V2.cell? ⟨w.heap.size + 1 + 1, 13, none⟩ = some (.int .u64 0) := HY2.out.cell 13
  have f16_13 := HY2.out.free 13
  go_simp
  have HY3 := Lib.hid (HY2.out.set_ 13 (.int .u64 x.mac))
  have HX3 := Lib.hid (HX2.out.far1 (g := (w.heap.size + 1 + 1)) (i := 13) (v := .int .u64 x.mac) (by omega))
  have HZ3 := Lib.hid (HZ2.out.far1 (g := (w.heap.size + 1 + 1)) (i := 13) (v := .int .u64 x.mac) (by omega))
  have HB3 := Lib.hid (HB2.out.setCell (p := ⟨(w.heap.size + 1 + 1), 13, none⟩) (by show w.heap.size ≤ w.heap.size + 1 + 1; omega) (.int .u64 x.mac))
  clear c16_13 f16_13
  refine hK.out _ _ HX3.out (fun hHeld => ?_)
  clear hK K
  try simp only [Act.put, List.setIfInBounds_toArray, List.set_cons_zero, List.set_cons_succ]
  clear HX2 HY2 HZ2 HB2
  change wpAnyH _ _ _ _ _ _ _ _ (V2.setCell ⟨w.heap.size + 1 + 1, 13, none⟩ (.int .u64 x.mac))
  generalize (V2.setCell ⟨w.heap.size + 1 + 1, 13, none⟩ (.int .u64 x.mac)) = V3 at *
  have hy3 := HY3.out
  simp only [Go.Proofs.Ythhajknmokomjaa.sets, NL.ev, NL.cs, NL.beg, List.setIfInBounds_toArray, List.set_cons_zero, List.set_cons_succ] at hy3
  clear HY3
  have HY3 := Lib.hid hy3
  clear hy3
  refine wpAnyH_take (i := 18) (oi := { dst := some 41, op := Go.Op.fieldAddr 31 (Go.Operand.tmp 4) 6, type := 0, pos := "ref.go:16", after := #[{ on := 0, ground := Go.Ground.phase }, { on := 1, ground := Go.Ground.phase }, { on := 2, ground := Go.Ground.phase }, { on := 3, ground := Go.Ground.phase }, { on := 4, ground := Go.Ground.phase }, { on := 5, ground := Go.Ground.phase }, { on := 6, ground := Go.Ground.phase }, { on := 7, ground := Go.Ground.phase }, { on := 8, ground := Go.Ground.textOnly Go.Departure.lateStores }, { on := 9, ground := Go.Ground.textOnly Go.Departure.lateStores }, { on := 10, ground := Go.Ground.textOnly Go.Departure.lateStores }, { on := 11, ground := Go.Ground.textOnly Go.Departure.lateStores }, { on := 12, ground := Go.Ground.phase }, { on := 13, ground := Go.Ground.phase }, { on := 14, ground := Go.Ground.phase }, { on := 15, ground := Go.Ground.phase }, { on := 16, ground := Go.Ground.phase }, { on := 17, ground := Go.Ground.phase }], guard := none }) (v := ?_) rfl (by kernel_rfl) (by kernel_rfl) (by kernel_rfl) (fun _ _ _ h => h) (Or.inl ⟨by rfl, ?_⟩) (by assumption) ?_
  rotate_left
  · intro wS hSw
    clear hSw
    go_simp
    try with_reducible rfl
  try simp only [Act.put, List.setIfInBounds_toArray, List.set_cons_zero, List.set_cons_succ]
  refine wpAnyH_ready (rs := [19]) (by kernel_rfl) (by simp) ?_
  refine AllReadyH.cons (o := { dst := none, op := Go.Op.store 4 (Go.Operand.tmp 41) (Go.Operand.tmp 33), type := 0, pos := "ref.go:16", after := #[{ on := 18, ground := Go.Ground.data }, { on := 7, ground := Go.Ground.data }, { on := 17, ground := Go.Ground.chain }, { on := 0, ground := Go.Ground.phase }, { on := 1, ground := Go.Ground.phase }, { on := 2, ground := Go.Ground.phase }, { on := 3, ground := Go.Ground.phase }, { on := 4, ground := Go.Ground.phase }, { on := 5, ground := Go.Ground.phase }, { on := 6, ground := Go.Ground.phase }, { on := 7, ground := Go.Ground.phase }, { on := 8, ground := Go.Ground.textOnly Go.Departure.lateStores }, { on := 9, ground := Go.Ground.textOnly Go.Departure.lateStores }, { on := 10, ground := Go.Ground.textOnly Go.Departure.lateStores }, { on := 11, ground := Go.Ground.textOnly Go.Departure.lateStores }, { on := 12, ground := Go.Ground.phase }, { on := 13, ground := Go.Ground.phase }, { on := 14, ground := Go.Ground.phase }, { on := 15, ground := Go.Ground.phase }, { on := 16, ground := Go.Ground.phase }, { on := 17, ground := Go.Ground.phase }], guard := none }) rfl (fun K hK => ?_) AllReadyH.nil
  have c18_15 : V3.cell? ⟨w.heap.size + 1 + 1, 15, none⟩ = some (.bool false) := HY3.out.cell 15
  have f18_15 := HY3.out.free 15
  go_simp
  have HY4 := Lib.hid (HY3.out.set_ 15 (.bool x.has))
  have HX4 := Lib.hid (HX3.out.far1 (g := (w.heap.size + 1 + 1)) (i := 15) (v := .bool x.has) (by omega))
  have HZ4 := Lib.hid (HZ3.out.far1 (g := (w.heap.size + 1 + 1)) (i := 15) (v := .bool x.has) (by omega))
  have HB4 := Lib.hid (HB3.out.setCell (p := ⟨(w.heap.size + 1 + 1), 15, none⟩) (by show w.heap.size ≤ w.heap.size + 1 + 1; omega) (.bool x.has))
  clear c18_15 f18_15
  refine hK.out _ _ HX4.out (fun hHeld => ?_)
  clear hK K
  try simp only [Act.put, List.setIfInBounds_toArray, List.set_cons_zero, List.set_cons_succ]
  clear HX3 HY3 HZ3 HB3
  change wpAnyH _ _ _ _ _ _ _ _ (V3.setCell ⟨w.heap.size + 1 + 1, 15, none⟩ (.bool x.has))
  generalize (V3.setCell ⟨w.heap.size + 1 + 1, 15, none⟩ (.bool x.has)) = V4 at *
  have hy4 := HY4.out
  simp only [Go.Proofs.Ythhajknmokomjaa.sets, NL.ev, NL.cs, NL.beg, List.setIfInBounds_toArray, List.set_cons_zero, List.set_cons_succ] at hy4
  clear HY4
  have HY4 := Lib.hid hy4
  clear hy4
  refine wpAnyH_take (i := 20) (oi := { dst := some 42, op := Go.Op.fieldAddr 31 (Go.Operand.tmp 4) 9, type := 0, pos := "ref.go:16", after := #[{ on := 0, ground := Go.Ground.phase }, { on := 1, ground := Go.Ground.phase }, { on := 2, ground := Go.Ground.phase }, { on := 3, ground := Go.Ground.phase }, { on := 4, ground := Go.Ground.phase }, { on := 5, ground := Go.Ground.phase }, { on := 6, ground := Go.Ground.phase }, { on := 7, ground := Go.Ground.phase }, { on := 8, ground := Go.Ground.phase }, { on := 9, ground := Go.Ground.phase }, { on := 10, ground := Go.Ground.textOnly Go.Departure.lateStores }, { on := 11, ground := Go.Ground.textOnly Go.Departure.lateStores }, { on := 12, ground := Go.Ground.phase }, { on := 13, ground := Go.Ground.phase }, { on := 14, ground := Go.Ground.phase }, { on := 15, ground := Go.Ground.phase }, { on := 16, ground := Go.Ground.phase }, { on := 17, ground := Go.Ground.phase }, { on := 18, ground := Go.Ground.phase }, { on := 19, ground := Go.Ground.phase }], guard := none }) (v := ?_) rfl (by kernel_rfl) (by kernel_rfl) (by kernel_rfl) (fun _ _ _ h => h) (Or.inl ⟨by rfl, ?_⟩) (by assumption) ?_
  rotate_left
  · intro wS hSw
    clear hSw
    go_simp
    try with_reducible rfl
  try simp only [Act.put, List.setIfInBounds_toArray, List.set_cons_zero, List.set_cons_succ]
  refine wpAnyH_ready (rs := [21]) (by kernel_rfl) (by simp) ?_
  refine AllReadyH.cons (o := { dst := none, op := Go.Op.store 25 (Go.Operand.tmp 42) (Go.Operand.tmp 35), type := 0, pos := "ref.go:16", after := #[{ on := 20, ground := Go.Ground.data }, { on := 9, ground := Go.Ground.data }, { on := 19, ground := Go.Ground.chain }, { on := 0, ground := Go.Ground.phase }, { on := 1, ground := Go.Ground.phase }, { on := 2, ground := Go.Ground.phase }, { on := 3, ground := Go.Ground.phase }, { on := 4, ground := Go.Ground.phase }, { on := 5, ground := Go.Ground.phase }, { on := 6, ground := Go.Ground.phase }, { on := 7, ground := Go.Ground.phase }, { on := 8, ground := Go.Ground.phase }, { on := 9, ground := Go.Ground.phase }, { on := 10, ground := Go.Ground.textOnly Go.Departure.lateStores }, { on := 11, ground := Go.Ground.textOnly Go.Departure.lateStores }, { on := 12, ground := Go.Ground.phase }, { on := 13, ground := Go.Ground.phase }, { on := 14, ground := Go.Ground.phase }, { on := 15, ground := Go.Ground.phase }, { on := 16, ground := Go.Ground.phase }, { on := 17, ground := Go.Ground.phase }, { on := 18, ground := Go.Ground.phase }, { on := 19, ground := Go.Ground.phase }], guard := none }) rfl (fun K hK => ?_) AllReadyH.nil
  have c20_19 : V4.cell? ⟨w.heap.size + 1 + 1, 19, none⟩ = some (.int .u32 0) := HY4.out.cell 19
  have f20_19 := HY4.out.free 19
  go_simp
  have HY5 := Lib.hid (HY4.out.set_ 19 (.int .u32 x.l1))
  have HX5 := Lib.hid (HX4.out.far1 (g := (w.heap.size + 1 + 1)) (i := 19) (v := .int .u32 x.l1) (by omega))
  have HZ5 := Lib.hid (HZ4.out.far1 (g := (w.heap.size + 1 + 1)) (i := 19) (v := .int .u32 x.l1) (by omega))
  have HB5 := Lib.hid (HB4.out.setCell (p := ⟨(w.heap.size + 1 + 1), 19, none⟩) (by show w.heap.size ≤ w.heap.size + 1 + 1; omega) (.int .u32 x.l1))
  clear c20_19 f20_19
  refine hK.out _ _ HX5.out (fun hHeld => ?_)
  clear hK K
  try simp only [Act.put, List.setIfInBounds_toArray, List.set_cons_zero, List.set_cons_succ]
  clear HX4 HY4 HZ4 HB4
  change wpAnyH _ _ _ _ _ _ _ _ (V4.setCell ⟨w.heap.size + 1 + 1, 19, none⟩ (.int .u32 x.l1))
  generalize (V4.setCell ⟨w.heap.size + 1 + 1, 19, none⟩ (.int .u32 x.l1)) = V5 at *
  have hy5 := HY5.out
  simp only [Go.Proofs.Ythhajknmokomjaa.sets, NL.ev, NL.cs, NL.beg, List.setIfInBounds_toArray, List.set_cons_zero, List.set_cons_succ] at hy5
  clear HY5
  have HY5 := Lib.hid hy5
  clear hy5
  refine wpAnyH_take (i := 22) (oi := { dst := some 43, op := Go.Op.fieldAddr 31 (Go.Operand.tmp 4) 10, type := 0, pos := "ref.go:16", after := #[{ on := 0, ground := Go.Ground.phase }, { on := 1, ground := Go.Ground.phase }, { on := 2, ground := Go.Ground.phase }, { on := 3, ground := Go.Ground.phase }, { on := 4, ground := Go.Ground.phase }, { on := 5, ground := Go.Ground.phase }, { on := 6, ground := Go.Ground.phase }, { on := 7, ground := Go.Ground.phase }, { on := 8, ground := Go.Ground.phase }, { on := 9, ground := Go.Ground.phase }, { on := 10, ground := Go.Ground.phase }, { on := 11, ground := Go.Ground.phase }, { on := 12, ground := Go.Ground.phase }, { on := 13, ground := Go.Ground.phase }, { on := 14, ground := Go.Ground.phase }, { on := 15, ground := Go.Ground.phase }, { on := 16, ground := Go.Ground.phase }, { on := 17, ground := Go.Ground.phase }, { on := 18, ground := Go.Ground.phase }, { on := 19, ground := Go.Ground.phase }, { on := 20, ground := Go.Ground.phase }, { on := 21, ground := Go.Ground.phase }], guard := none }) (v := ?_) rfl (by kernel_rfl) (by kernel_rfl) (by kernel_rfl) (fun _ _ _ h => h) (Or.inl ⟨by rfl, ?_⟩) (by assumption) ?_
  rotate_left
  · intro wS hSw
    clear hSw
    go_simp
    try with_reducible rfl
  try simp only [Act.put, List.setIfInBounds_toArray, List.set_cons_zero, List.set_cons_succ]
  refine wpAnyH_ready (rs := [23]) (by kernel_rfl) (by simp) ?_
  refine AllReadyH.cons (o := { dst := none, op := Go.Op.store 25 (Go.Operand.tmp 43) (Go.Operand.tmp 37), type := 0, pos := "ref.go:16", after := #[{ on := 22, ground := Go.Ground.data }, { on := 11, ground := Go.Ground.data }, { on := 21, ground := Go.Ground.chain }, { on := 0, ground := Go.Ground.phase }, { on := 1, ground := Go.Ground.phase }, { on := 2, ground := Go.Ground.phase }, { on := 3, ground := Go.Ground.phase }, { on := 4, ground := Go.Ground.phase }, { on := 5, ground := Go.Ground.phase }, { on := 6, ground := Go.Ground.phase }, { on := 7, ground := Go.Ground.phase }, { on := 8, ground := Go.Ground.phase }, { on := 9, ground := Go.Ground.phase }, { on := 10, ground := Go.Ground.phase }, { on := 11, ground := Go.Ground.phase }, { on := 12, ground := Go.Ground.phase }, { on := 13, ground := Go.Ground.phase }, { on := 14, ground := Go.Ground.phase }, { on := 15, ground := Go.Ground.phase }, { on := 16, ground := Go.Ground.phase }, { on := 17, ground := Go.Ground.phase }, { on := 18, ground := Go.Ground.phase }, { on := 19, ground := Go.Ground.phase }, { on := 20, ground := Go.Ground.phase }, { on := 21, ground := Go.Ground.phase }], guard := none }) rfl (fun K hK => ?_) AllReadyH.nil
  have c22_20 : V5.cell? ⟨w.heap.size + 1 + 1, 20, none⟩ = some (.int .u32 0) := HY5.out.cell 20
  have f22_20 := HY5.out.free 20
  go_simp
  have HY6 := Lib.hid (HY5.out.set_ 20 (.int .u32 x.l2))
  have HX6 := Lib.hid (HX5.out.far1 (g := (w.heap.size + 1 + 1)) (i := 20) (v := .int .u32 x.l2) (by omega))
  have HZ6 := Lib.hid (HZ5.out.far1 (g := (w.heap.size + 1 + 1)) (i := 20) (v := .int .u32 x.l2) (by omega))
  have HB6 := Lib.hid (HB5.out.setCell (p := ⟨(w.heap.size + 1 + 1), 20, none⟩) (by show w.heap.size ≤ w.heap.size + 1 + 1; omega) (.int .u32 x.l2))
  clear c22_20 f22_20
  refine hK.out _ _ HX6.out (fun hHeld => ?_)
  clear hK K
  try simp only [Act.put, List.setIfInBounds_toArray, List.set_cons_zero, List.set_cons_succ]
  clear HX5 HY5 HZ5 HB5
  change wpAnyH _ _ _ _ _ _ _ _ (V5.setCell ⟨w.heap.size + 1 + 1, 20, none⟩ (.int .u32 x.l2))
  generalize (V5.setCell ⟨w.heap.size + 1 + 1, 20, none⟩ (.int .u32 x.l2)) = V6 at *
  have hy6 := HY6.out
  simp only [Go.Proofs.Ythhajknmokomjaa.sets, NL.ev, NL.cs, NL.beg, List.setIfInBounds_toArray, List.set_cons_zero, List.set_cons_succ] at hy6
  clear HY6
  have HY6 := Lib.hid hy6
  clear hy6
  refine wpAnyH_done (by kernel_rfl) ?_ _
  have E2 : Hid (x.sh2 = ⟨x.k, x.rd, x.e0, x.e1, x.e2, x.e3, x.e4, x.e5, x.e6, x.e7, x.e8, x.e9, x.tag, x.mac, 0, x.has, 0, 0, 0, x.l1, x.l2⟩) := Lib.hid (by simp only [NL.sh2]; rw [HH.out]; rfl)
  have c15 : V6.cell? ⟨w.heap.size, 15, none⟩ = some (.bool false) := HX6.out.n15.trans (congrArg (fun z => some (Value.bool z)) HH.out)
  have HYn : Hid (Has V6 (w.heap.size + 1 + 1) 31 x.sh2.cs) := Lib.hid (by rw [E2.out]; exact HY6.out)
  go_wp2_with (first
    | (refine wpList_load_row rfl 31 (.tmp 4) rfl (w.heap.size + 1 + 1) rfl 31 x.sh2.cs (0, 0) _ HYn.out Try.underlying31 rfl x.sh2.fit ?_)
    | (refine wpList_store_row rfl 31 (.tmp 2) (.tmp 84) rfl (w.heap.size + 1) x.sh2.cs rfl rfl 31 zcs HZ6.out x.sh2.fit rfl x.sh2.one ?_))
  exact bodyPost_ret (v := .tuple #[.agg x.sh2.cs, .bool true]) (results_cell_row_tmp rfl _ _ (w.heap.size + 1) 31 x.sh2.cs (0, 0) _ _ rfl rfl (setRow_heap _ _ _ _ _ _ HZ6.out) Try.underlying31 rfl x.sh2.fit) rfl ⟨rfl, setRow_below HB6.out (by omega) HB6.out.size⟩

set_option maxHeartbeats 1000000 in
theorem ronly_2true (x : NL) (hk : x.k = 2) (hh : x.has = true) (w : World) : Calls Try.prog 29 #[.agg x.cs] w fun e w' => e = .returned (.tuple #[.agg x.sh2.cs, .bool true]) ∧ Below w.heap.size w w' := by
  have hx3 : Has (((w.alloc (.cells x.cs 31)).alloc (.cells zcs 31)).alloc (.cells zcs 31)) w.heap.size 31 x.cs := ((Has.new w 31 x.cs).below ((Below.refl _ _).alloc (Nat.le_refl _) _)).below ((Below.refl _ _).alloc (Nat.le_refl _) _)
  have hz3 : Has (((w.alloc (.cells x.cs 31)).alloc (.cells zcs 31)).alloc (.cells zcs 31)) (w.heap.size + 1) 31 zcs := by
    have h := (Has.new (w.alloc (.cells x.cs 31)) 31 zcs).below ((Below.refl _ _).alloc (Nat.le_refl _) (.cells zcs 31))
    simpa using h
  have HY3 : Hid (Has (((w.alloc (.cells x.cs 31)).alloc (.cells zcs 31)).alloc (.cells zcs 31)) (w.heap.size + 1 + 1) 31 zcs) := Lib.hid (by
    have h := Has.new ((w.alloc (.cells x.cs 31)).alloc (.cells zcs 31)) 31 zcs
    simpa using h)
  have hb3 : Below w.heap.size w (((w.alloc (.cells x.cs 31)).alloc (.cells zcs 31)).alloc (.cells zcs 31)) := (((Below.refl _ w).alloc (Nat.le_refl _) _).alloc (by simp) _).alloc (by simp; omega) _
  have HX4 : Hid (Has ((((w.alloc (.cells x.cs 31)).alloc (.cells zcs 31)).alloc (.cells zcs 31)).setRow (w.heap.size + 1 + 1) x.beg.cs) w.heap.size 31 x.cs) := Lib.hid (hx3.grown (Only.row (h := w.heap.size + 1 + 1) x.beg.cs) (by intro h; injection h with h; omega))
  have HZ4 : Hid (Has ((((w.alloc (.cells x.cs 31)).alloc (.cells zcs 31)).alloc (.cells zcs 31)).setRow (w.heap.size + 1 + 1) x.beg.cs) (w.heap.size + 1) 31 zcs) := Lib.hid (hz3.grown (Only.row (h := w.heap.size + 1 + 1) x.beg.cs) (by intro h; injection h with h; omega))
  have HY4 : Hid (Has ((((w.alloc (.cells x.cs 31)).alloc (.cells zcs 31)).alloc (.cells zcs 31)).setRow (w.heap.size + 1 + 1) x.beg.cs) (w.heap.size + 1 + 1) 31 x.beg.cs) := Lib.hid (setRow_heap _ _ _ _ _ _ HY3.out)
  have HB4 : Hid (Below w.heap.size w ((((w.alloc (.cells x.cs 31)).alloc (.cells zcs 31)).alloc (.cells zcs 31)).setRow (w.heap.size + 1 + 1) x.beg.cs)) := Lib.hid (setRow_below hb3 (by omega) hb3.size)
  have x0 : x.cs[0]? = some (.int .i64 x.k) := rfl
  have x1 : x.cs[1]? = some (.int .u64 x.rd) := rfl
  have HK := Lib.hid hk
  have HH := Lib.hid hh
  clear hx3 hz3 hb3 hk hh
  go_enter Try.func29, Try.ntmps29
  go_upto_region 2 with (refine wpList_store_row rfl 31 (.tmp 4) (.tmp 9) rfl (w.heap.size + 1 + 1) x.beg.cs rfl rfl 31 zcs HY3.out x.beg.fit rfl x.beg.one ?_)
  clear HY3
  generalize ((((w.alloc (.cells x.cs 31)).alloc (.cells zcs 31)).alloc (.cells zcs 31)).setRow (w.heap.size + 1 + 1) x.beg.cs) = W4 at *
  have c0 : W4.cell? ⟨w.heap.size, 0, none⟩ = some (.int .i64 2) := HX4.out.n0.trans (congrArg (fun z => some (Value.int .i64 z)) HK.out)
  go_upto_region 7 with fail
  clear c0 x0 x1
  have HX : Hid (Has W4.drew w.heap.size 31 x.cs) := Lib.hid (HX4.out.below (Below.refl _ W4).drew)
  have HZ : Hid (Has W4.drew (w.heap.size + 1) 31 zcs) := Lib.hid (HZ4.out.below (Below.refl _ W4).drew)
  have HY : Hid (Has W4.drew (w.heap.size + 1 + 1) 31 x.beg.cs) := Lib.hid (HY4.out.below (Below.refl _ W4).drew)
  have HB : Hid (Below w.heap.size w W4.drew) := Lib.hid HB4.out.drew
  refine wp_region_held_drew (S := (fun w' => Has w' w.heap.size 31 x.cs)) (by kernel_rfl) HX.out (fun hHeld => ?_)
  refine wpAnyH_take (i := 0) (oi := { dst := some 26, op := Go.Op.fieldAddr 31 (Go.Operand.tmp 1) 2, type := 0, pos := "ref.go:16", after := #[], guard := none }) (v := ?_) rfl (by kernel_rfl) (by kernel_rfl) (by kernel_rfl) (fun _ _ _ h => h) (Or.inl ⟨by rfl, ?_⟩) (by assumption) ?_
  rotate_left
  · intro wS hSw
    clear hSw
    go_simp
    try with_reducible rfl
  try simp only [Act.put, List.setIfInBounds_toArray, List.set_cons_zero, List.set_cons_succ]
  refine wpAnyH_take (i := 1) (oi := { dst := some 27, op := Go.Op.load 24 (Go.Operand.tmp 26), type := 24, pos := "ref.go:16", after := #[{ on := 0, ground := Go.Ground.data }], guard := none }) (v := .agg x.ev.toArray) rfl (by kernel_rfl) (by kernel_rfl) (by kernel_rfl) (fun _ _ _ h => h) (yieldsIf_load_mid (by rfl) 24 (.tmp 26) rfl w.heap.size 2 rfl x.ev _ (fun _ h => has_esi h) Try.underlying24 rfl esi_fitv) (by assumption) ?_
  try simp only [Act.put, List.setIfInBounds_toArray, List.set_cons_zero, List.set_cons_succ]
  refine wpAnyH_take (i := 2) (oi := { dst := some 28, op := Go.Op.fieldAddr 31 (Go.Operand.tmp 1) 3, type := 0, pos := "ref.go:16", after := #[{ on := 13, ground := Go.Ground.gcOnly Go.Departure.lateStores }], guard := none }) (v := ?_) rfl (by kernel_rfl) (by kernel_rfl) (by kernel_rfl) (fun _ _ _ h => h) (Or.inl ⟨by rfl, ?_⟩) (by assumption) ?_
  rotate_left
  · intro wS hSw
    clear hSw
    go_simp
    try with_reducible rfl
  try simp only [Act.put, List.setIfInBounds_toArray, List.set_cons_zero, List.set_cons_succ]
  refine wpAnyH_take (i := 3) (oi := { dst := some 29, op := Go.Op.load 25 (Go.Operand.tmp 28), type := 25, pos := "ref.go:16", after := #[{ on := 2, ground := Go.Ground.data }, { on := 13, ground := Go.Ground.gcOnly Go.Departure.lateStores }], guard := none }) (v := ?_) rfl (by kernel_rfl) (by kernel_rfl) (by kernel_rfl) (fun _ _ _ h => h) (Or.inl ⟨by rfl, ?_⟩) (by assumption) ?_
  rotate_left
  · intro wS hSw
    have q12 := Has.n12 hSw
    clear hSw
    go_simp
    try with_reducible rfl
  try simp only [Act.put, List.setIfInBounds_toArray, List.set_cons_zero, List.set_cons_succ]
  refine wpAnyH_take (i := 4) (oi := { dst := some 30, op := Go.Op.fieldAddr 31 (Go.Operand.tmp 1) 4, type := 0, pos := "ref.go:16", after := #[{ on := 15, ground := Go.Ground.gcOnly Go.Departure.lateStores }], guard := none }) (v := ?_) rfl (by kernel_rfl) (by kernel_rfl) (by kernel_rfl) (fun _ _ _ h => h) (Or.inl ⟨by rfl, ?_⟩) (by assumption) ?_
  rotate_left
  · intro wS hSw
    clear hSw
    go_simp
    try with_reducible rfl
  try simp only [Act.put, List.setIfInBounds_toArray, List.set_cons_zero, List.set_cons_succ]
  refine wpAnyH_take (i := 5) (oi := { dst := some 31, op := Go.Op.load 26 (Go.Operand.tmp 30), type := 26, pos := "ref.go:16", after := #[{ on := 4, ground := Go.Ground.data }, { on := 15, ground := Go.Ground.gcOnly Go.Departure.lateStores }], guard := none }) (v := ?_) rfl (by kernel_rfl) (by kernel_rfl) (by kernel_rfl) (fun _ _ _ h => h) (Or.inl ⟨by rfl, ?_⟩) (by assumption) ?_
  rotate_left
  · intro wS hSw
    have q13 := Has.n13 hSw
    clear hSw
    go_simp
    try with_reducible rfl
  try simp only [Act.put, List.setIfInBounds_toArray, List.set_cons_zero, List.set_cons_succ]
  refine wpAnyH_take (i := 6) (oi := { dst := some 32, op := Go.Op.fieldAddr 31 (Go.Operand.tmp 1) 6, type := 0, pos := "ref.go:16", after := #[{ on := 17, ground := Go.Ground.gcOnly Go.Departure.lateStores }], guard := none }) (v := ?_) rfl (by kernel_rfl) (by kernel_rfl) (by kernel_rfl) (fun _ _ _ h => h) (Or.inl ⟨by rfl, ?_⟩) (by assumption) ?_
  rotate_left
  · intro wS hSw
    clear hSw
    go_simp
    try with_reducible rfl
  try simp only [Act.put, List.setIfInBounds_toArray, List.set_cons_zero, List.set_cons_succ]
  refine wpAnyH_take (i := 7) (oi := { dst := some 33, op := Go.Op.load 4 (Go.Operand.tmp 32), type := 4, pos := "ref.go:16", after := #[{ on := 6, ground := Go.Ground.data }, { on := 17, ground := Go.Ground.gcOnly Go.Departure.lateStores }], guard := none }) (v := ?_) rfl (by kernel_rfl) (by kernel_rfl) (by kernel_rfl) (fun _ _ _ h => h) (Or.inl ⟨by rfl, ?_⟩) (by assumption) ?_
  rotate_left
  · intro wS hSw
    have q15 := Has.n15 hSw
    clear hSw
    go_simp
    try with_reducible rfl
  try simp only [Act.put, List.setIfInBounds_toArray, List.set_cons_zero, List.set_cons_succ]
  refine wpAnyH_take (i := 8) (oi := { dst := some 34, op := Go.Op.fieldAddr 31 (Go.Operand.tmp 1) 9, type := 0, pos := "ref.go:16", after := #[{ on := 19, ground := Go.Ground.gcOnly Go.Departure.lateStores }], guard := none }) (v := ?_) rfl (by kernel_rfl) (by kernel_rfl) (by kernel_rfl) (fun _ _ _ h => h) (Or.inl ⟨by rfl, ?_⟩) (by assumption) ?_
  rotate_left
  · intro wS hSw
    clear hSw
    go_simp
    try with_reducible rfl
  try simp only [Act.put, List.setIfInBounds_toArray, List.set_cons_zero, List.set_cons_succ]
  refine wpAnyH_take (i := 9) (oi := { dst := some 35, op := Go.Op.load 25 (Go.Operand.tmp 34), type := 25, pos := "ref.go:16", after := #[{ on := 8, ground := Go.Ground.data }, { on := 19, ground := Go.Ground.gcOnly Go.Departure.lateStores }], guard := none }) (v := ?_) rfl (by kernel_rfl) (by kernel_rfl) (by kernel_rfl) (fun _ _ _ h => h) (Or.inl ⟨by rfl, ?_⟩) (by assumption) ?_
  rotate_left
  · intro wS hSw
    have q19 := Has.n19 hSw
    clear hSw
    go_simp
    try with_reducible rfl
  try simp only [Act.put, List.setIfInBounds_toArray, List.set_cons_zero, List.set_cons_succ]
  refine wpAnyH_take (i := 10) (oi := { dst := some 36, op := Go.Op.fieldAddr 31 (Go.Operand.tmp 1) 10, type := 0, pos := "ref.go:16", after := #[{ on := 21, ground := Go.Ground.gcOnly Go.Departure.lateStores }], guard := none }) (v := ?_) rfl (by kernel_rfl) (by kernel_rfl) (by kernel_rfl) (fun _ _ _ h => h) (Or.inl ⟨by rfl, ?_⟩) (by assumption) ?_
  rotate_left
  · intro wS hSw
    clear hSw
    go_simp
    try with_reducible rfl
  try simp only [Act.put, List.setIfInBounds_toArray, List.set_cons_zero, List.set_cons_succ]
  refine wpAnyH_take (i := 11) (oi := { dst := some 37, op := Go.Op.load 25 (Go.Operand.tmp 36), type := 25, pos := "ref.go:16", after := #[{ on := 10, ground := Go.Ground.data }, { on := 21, ground := Go.Ground.gcOnly Go.Departure.lateStores }], guard := none }) (v := ?_) rfl (by kernel_rfl) (by kernel_rfl) (by kernel_rfl) (fun _ _ _ h => h) (Or.inl ⟨by rfl, ?_⟩) (by assumption) ?_
  rotate_left
  · intro wS hSw
    have q20 := Has.n20 hSw
    clear hSw
    go_simp
    try with_reducible rfl
  try simp only [Act.put, List.setIfInBounds_toArray, List.set_cons_zero, List.set_cons_succ]
  have HY0 := HY
  have HX0 := HX
  have HZ0 := HZ
  have HB0 := HB
  clear HY HX HZ HB HX4 HY4 HZ4 HB4
  generalize W4.drew = V0 at *
  refine wpAnyH_take (i := 12) (oi := { dst := some 38, op := Go.Op.fieldAddr 31 (Go.Operand.tmp 4) 2, type := 0, pos := "ref.go:16", after := #[{ on := 0, ground := Go.Ground.phase }, { on := 1, ground := Go.Ground.phase }, { on := 2, ground := Go.Ground.textOnly Go.Departure.lateStores }, { on := 3, ground := Go.Ground.textOnly Go.Departure.lateStores }, { on := 4, ground := Go.Ground.textOnly Go.Departure.lateStores }, { on := 5, ground := Go.Ground.textOnly Go.Departure.lateStores }, { on := 6, ground := Go.Ground.textOnly Go.Departure.lateStores }, { on := 7, ground := Go.Ground.textOnly Go.Departure.lateStores }, { on := 8, ground := Go.Ground.textOnly Go.Departure.lateStores }, { on := 9, ground := Go.Ground.textOnly Go.Departure.lateStores }, { on := 10, ground := Go.Ground.textOnly Go.Departure.lateStores }, { on := 11, ground := Go.Ground.textOnly Go.Departure.lateStores }], guard := none }) (v := ?_) rfl (by kernel_rfl) (by kernel_rfl) (by kernel_rfl) (fun _ _ _ h => h) (Or.inl ⟨by rfl, ?_⟩) (by assumption) ?_
  rotate_left
  · intro wS hSw
    clear hSw
    go_simp
    try with_reducible rfl
  try simp only [Act.put, List.setIfInBounds_toArray, List.set_cons_zero, List.set_cons_succ]
  refine wpAnyH_ready (rs := [13]) (by kernel_rfl) (by simp) ?_
  refine AllReadyH.cons (o := { dst := none, op := Go.Op.store 24 (Go.Operand.tmp 38) (Go.Operand.tmp 27), type := 0, pos := "ref.go:16", after := #[{ on := 12, ground := Go.Ground.data }, { on := 1, ground := Go.Ground.data }, { on := 0, ground := Go.Ground.phase }, { on := 1, ground := Go.Ground.phase }, { on := 2, ground := Go.Ground.textOnly Go.Departure.lateStores }, { on := 3, ground := Go.Ground.textOnly Go.Departure.lateStores }, { on := 4, ground := Go.Ground.textOnly Go.Departure.lateStores }, { on := 5, ground := Go.Ground.textOnly Go.Departure.lateStores }, { on := 6, ground := Go.Ground.textOnly Go.Departure.lateStores }, { on := 7, ground := Go.Ground.textOnly Go.Departure.lateStores }, { on := 8, ground := Go.Ground.textOnly Go.Departure.lateStores }, { on := 9, ground := Go.Ground.textOnly Go.Departure.lateStores }, { on := 10, ground := Go.Ground.textOnly Go.Departure.lateStores }, { on := 11, ground := Go.Ground.textOnly Go.Departure.lateStores }], guard := none }) rfl (fun K hK => ?_) AllReadyH.nil
  rw [if_pos (by rfl)]
  refine wp_store_mid 24 (.tmp 38) (.tmp 27) rfl (w.heap.size + 1 + 1) 2 x.ev.toArray rfl rfl (HY0.out.there 2 10 (by simp [NL.cs])) esi_fitw (all_oneCell_toArray x.ev_one) ?_
  have HY1 := Lib.hid (Has.sets x.ev 2 _ _ HY0.out)
  have HX1 := Lib.hid (Has.far (g := (w.heap.size + 1 + 1)) (by omega) x.ev 2 _ HX0.out)
  have HZ1 := Lib.hid (Has.far (g := (w.heap.size + 1 + 1)) (by omega) x.ev 2 _ HZ0.out)
  have HB1 := Lib.hid (Below.sets (g := (w.heap.size + 1 + 1)) (by omega) x.ev 2 _ HB0.out)
  refine hK.out _ _ HX1.out (fun hHeld => ?_)
  clear hK K
  try simp only [Act.put, List.setIfInBounds_toArray, List.set_cons_zero, List.set_cons_succ]
  clear HX0 HY0 HZ0 HB0
  change wpAnyH _ _ _ _ _ _ _ _ (V0.setCells (w.heap.size + 1 + 1) 2 x.ev)
  generalize (V0.setCells (w.heap.size + 1 + 1) 2 x.ev) = V1 at *
  have hy1 := HY1.out
  simp only [Go.Proofs.Ythhajknmokomjaa.sets, NL.ev, NL.cs, NL.beg, List.setIfInBounds_toArray, List.set_cons_zero, List.set_cons_succ] at hy1
  clear HY1
  have HY1 := Lib.hid hy1
  clear hy1
  refine wpAnyH_take (i := 14) (oi := { dst := some 39, op := Go.Op.fieldAddr 31 (Go.Operand.tmp 4) 3, type := 0, pos := "ref.go:16", after := #[{ on := 0, ground := Go.Ground.phase }, { on := 1, ground := Go.Ground.phase }, { on := 2, ground := Go.Ground.phase }, { on := 3, ground := Go.Ground.phase }, { on := 4, ground := Go.Ground.textOnly Go.Departure.lateStores }, { on := 5, ground := Go.Ground.textOnly Go.Departure.lateStores }, { on := 6, ground := Go.Ground.textOnly Go.Departure.lateStores }, { on := 7, ground := Go.Ground.textOnly Go.Departure.lateStores }, { on := 8, ground := Go.Ground.textOnly Go.Departure.lateStores }, { on := 9, ground := Go.Ground.textOnly Go.Departure.lateStores }, { on := 10, ground := Go.Ground.textOnly Go.Departure.lateStores }, { on := 11, ground := Go.Ground.textOnly Go.Departure.lateStores }, { on := 12, ground := Go.Ground.phase }, { on := 13, ground := Go.Ground.phase }], guard := none }) (v := ?_) rfl (by kernel_rfl) (by kernel_rfl) (by kernel_rfl) (fun _ _ _ h => h) (Or.inl ⟨by rfl, ?_⟩) (by assumption) ?_
  rotate_left
  · intro wS hSw
    clear hSw
    go_simp
    try with_reducible rfl
  try simp only [Act.put, List.setIfInBounds_toArray, List.set_cons_zero, List.set_cons_succ]
  refine wpAnyH_ready (rs := [15]) (by kernel_rfl) (by simp) ?_
  refine AllReadyH.cons (o := { dst := none, op := Go.Op.store 25 (Go.Operand.tmp 39) (Go.Operand.tmp 29), type := 0, pos := "ref.go:16", after := #[{ on := 14, ground := Go.Ground.data }, { on := 3, ground := Go.Ground.data }, { on := 13, ground := Go.Ground.chain }, { on := 0, ground := Go.Ground.phase }, { on := 1, ground := Go.Ground.phase }, { on := 2, ground := Go.Ground.phase }, { on := 3, ground := Go.Ground.phase }, { on := 4, ground := Go.Ground.textOnly Go.Departure.lateStores }, { on := 5, ground := Go.Ground.textOnly Go.Departure.lateStores }, { on := 6, ground := Go.Ground.textOnly Go.Departure.lateStores }, { on := 7, ground := Go.Ground.textOnly Go.Departure.lateStores }, { on := 8, ground := Go.Ground.textOnly Go.Departure.lateStores }, { on := 9, ground := Go.Ground.textOnly Go.Departure.lateStores }, { on := 10, ground := Go.Ground.textOnly Go.Departure.lateStores }, { on := 11, ground := Go.Ground.textOnly Go.Departure.lateStores }, { on := 12, ground := Go.Ground.phase }, { on := 13, ground := Go.Ground.phase }], guard := none }) rfl (fun K hK => ?_) AllReadyH.nil
  have c14_12 : V1.cell? ⟨w.heap.size + 1 + 1, 12, none⟩ = some (.int .u32 0) := HY1.out.cell 12
  have f14_12 := HY1.out.free 12
  go_simp
  have HY2 := Lib.hid (HY1.out.set_ 12 (.int .u32 x.tag))
  have HX2 := Lib.hid (HX1.out.far1 (g := (w.heap.size + 1 + 1)) (i := 12) (v := .int .u32 x.tag) (by omega))
  have HZ2 := Lib.hid (HZ1.out.far1 (g := (w.heap.size + 1 + 1)) (i := 12) (v := .int .u32 x.tag) (by omega))
  have HB2 := Lib.hid (HB1.out.setCell (p := ⟨(w.heap.size + 1 + 1), 12, none⟩) (by show w.heap.size ≤ w.heap.size + 1 + 1; omega) (.int .u32 x.tag))
  clear c14_12 f14_12
  refine hK.out _ _ HX2.out (fun hHeld => ?_)
  clear hK K
  try simp only [Act.put, List.setIfInBounds_toArray, List.set_cons_zero, List.set_cons_succ]
  clear HX1 HY1 HZ1 HB1
  change wpAnyH _ _ _ _ _ _ _ _ (V1.setCell ⟨w.heap.size + 1 + 1, 12, none⟩ (.int .u32 x.tag))
  generalize (V1.setCell ⟨w.heap.size + 1 + 1, 12, none⟩ (.int .u32 x.tag)) = V2 at *
  have hy2 := HY2.out
  simp only [Go.Proofs.Ythhajknmokomjaa.sets, NL.ev, NL.cs, NL.beg, List.setIfInBounds_toArray, List.set_cons_zero, List.set_cons_succ] at hy2
  clear HY2
  have HY2 := Lib.hid hy2
  clear hy2
  refine wpAnyH_take (i := 16) (oi := { dst := some 40, op := Go.Op.fieldAddr 31 (Go.Operand.tmp 4) 4, type := 0, pos := "ref.go:16", after := #[{ on := 0, ground := Go.Ground.phase }, { on := 1, ground := Go.Ground.phase }, { on := 2, ground := Go.Ground.phase }, { on := 3, ground := Go.Ground.phase }, { on := 4, ground := Go.Ground.phase }, { on := 5, ground := Go.Ground.phase }, { on := 6, ground := Go.Ground.textOnly Go.Departure.lateStores }, { on := 7, ground := Go.Ground.textOnly Go.Departure.lateStores }, { on := 8, ground := Go.Ground.textOnly Go.Departure.lateStores }, { on := 9, ground := Go.Ground.textOnly Go.Departure.lateStores }, { on := 10, ground := Go.Ground.textOnly Go.Departure.lateStores }, { on := 11, ground := Go.Ground.textOnly Go.Departure.lateStores }, { on := 12, ground := Go.Ground.phase }, { on := 13, ground := Go.Ground.phase }, { on := 14, ground := Go.Ground.phase }, { on := 15, ground := Go.Ground.phase }], guard := none }) (v := ?_) rfl (by kernel_rfl) (by kernel_rfl) (by kernel_rfl) (fun _ _ _ h => h) (Or.inl ⟨by rfl, ?_⟩) (by assumption) ?_
  rotate_left
  · intro wS hSw
    clear hSw
    go_simp
    try with_reducible rfl
  try simp only [Act.put, List.setIfInBounds_toArray, List.set_cons_zero, List.set_cons_succ]
  refine wpAnyH_ready (rs := [17]) (by kernel_rfl) (by simp) ?_
  refine AllReadyH.cons (o := { dst := none, op := Go.Op.store 26 (Go.Operand.tmp 40) (Go.Operand.tmp 31), type := 0, pos := "ref.go:16", after := #[{ on := 16, ground := Go.Ground.data }, { on := 5, ground := Go.Ground.data }, { on := 15, ground := Go.Ground.chain }, { on := 0, ground := Go.Ground.phase }, { on := 1, ground := Go.Ground.phase }, { on := 2, ground := Go.Ground.phase }, { on := 3, ground := Go.Ground.phase }, { on := 4, ground := Go.Ground.phase }, { on := 5, ground := Go.Ground.phase }, { on := 6, ground := Go.Ground.textOnly Go.Departure.lateStores }, { on := 7, ground := Go.Ground.textOnly Go.Departure.lateStores }, { on := 8, ground := Go.Ground.textOnly Go.Departure.lateStores }, { on := 9, ground := Go.Ground.textOnly Go.Departure.lateStores }, { on := 10, ground := Go.Ground.textOnly Go.Departure.lateStores }, { on := 11, ground := Go.Ground.textOnly Go.Departure.lateStores }, { on := 12, ground := Go.Ground.phase }, { on := 13, ground := Go.Ground.phase }, { on := 14, ground := Go.Ground.phase }, { on := 15, ground := Go.Ground.phase }], guard := none }) rfl (fun K hK => ?_) AllReadyH.nil
  have c16_13 : V2.cell? ⟨w.heap.size + 1 + 1, 13, none⟩ = some (.int .u64 0) := HY2.out.cell 13
  have f16_13 := HY2.out.free 13
  go_simp
  have HY3 := Lib.hid (HY2.out.set_ 13 (.int .u64 x.mac))
  have HX3 := Lib.hid (HX2.out.far1 (g := (w.heap.size + 1 + 1)) (i := 13) (v := .int .u64 x.mac) (by omega))
  have HZ3 := Lib.hid (HZ2.out.far1 (g := (w.heap.size + 1 + 1)) (i := 13) (v := .int .u64 x.mac) (by omega))
  have HB3 := Lib.hid (HB2.out.setCell (p := ⟨(w.heap.size + 1 + 1), 13, none⟩) (by show w.heap.size ≤ w.heap.size + 1 + 1; omega) (.int .u64 x.mac))
  clear c16_13 f16_13
  refine hK.out _ _ HX3.out (fun hHeld => ?_)
  clear hK K
  try simp only [Act.put, List.setIfInBounds_toArray, List.set_cons_zero, List.set_cons_succ]
  clear HX2 HY2 HZ2 HB2
  change wpAnyH _ _ _ _ _ _ _ _ (V2.setCell ⟨w.heap.size + 1 + 1, 13, none⟩ (.int .u64 x.mac))
  generalize (V2.setCell ⟨w.heap.size + 1 + 1, 13, none⟩ (.int .u64 x.mac)) = V3 at *
  have hy3 := HY3.out
  simp only [Go.Proofs.Ythhajknmokomjaa.sets, NL.ev, NL.cs, NL.beg, List.setIfInBounds_toArray, List.set_cons_zero, List.set_cons_succ] at hy3
  clear HY3
  have HY3 := Lib.hid hy3
  clear hy3
  refine wpAnyH_take (i := 18) (oi := { dst := some 41, op := Go.Op.fieldAddr 31 (Go.Operand.tmp 4) 6, type := 0, pos := "ref.go:16", after := #[{ on := 0, ground := Go.Ground.phase }, { on := 1, ground := Go.Ground.phase }, { on := 2, ground := Go.Ground.phase }, { on := 3, ground := Go.Ground.phase }, { on := 4, ground := Go.Ground.phase }, { on := 5, ground := Go.Ground.phase }, { on := 6, ground := Go.Ground.phase }, { on := 7, ground := Go.Ground.phase }, { on := 8, ground := Go.Ground.textOnly Go.Departure.lateStores }, { on := 9, ground := Go.Ground.textOnly Go.Departure.lateStores }, { on := 10, ground := Go.Ground.textOnly Go.Departure.lateStores }, { on := 11, ground := Go.Ground.textOnly Go.Departure.lateStores }, { on := 12, ground := Go.Ground.phase }, { on := 13, ground := Go.Ground.phase }, { on := 14, ground := Go.Ground.phase }, { on := 15, ground := Go.Ground.phase }, { on := 16, ground := Go.Ground.phase }, { on := 17, ground := Go.Ground.phase }], guard := none }) (v := ?_) rfl (by kernel_rfl) (by kernel_rfl) (by kernel_rfl) (fun _ _ _ h => h) (Or.inl ⟨by rfl, ?_⟩) (by assumption) ?_
  rotate_left
  · intro wS hSw
    clear hSw
    go_simp
    try with_reducible rfl
  try simp only [Act.put, List.setIfInBounds_toArray, List.set_cons_zero, List.set_cons_succ]
  refine wpAnyH_ready (rs := [19]) (by kernel_rfl) (by simp) ?_
  refine AllReadyH.cons (o := { dst := none, op := Go.Op.store 4 (Go.Operand.tmp 41) (Go.Operand.tmp 33), type := 0, pos := "ref.go:16", after := #[{ on := 18, ground := Go.Ground.data }, { on := 7, ground := Go.Ground.data }, { on := 17, ground := Go.Ground.chain }, { on := 0, ground := Go.Ground.phase }, { on := 1, ground := Go.Ground.phase }, { on := 2, ground := Go.Ground.phase }, { on := 3, ground := Go.Ground.phase }, { on := 4, ground := Go.Ground.phase }, { on := 5, ground := Go.Ground.phase }, { on := 6, ground := Go.Ground.phase }, { on := 7, ground := Go.Ground.phase }, { on := 8, ground := Go.Ground.textOnly Go.Departure.lateStores }, { on := 9, ground := Go.Ground.textOnly Go.Departure.lateStores }, { on := 10, ground := Go.Ground.textOnly Go.Departure.lateStores }, { on := 11, ground := Go.Ground.textOnly Go.Departure.lateStores }, { on := 12, ground := Go.Ground.phase }, { on := 13, ground := Go.Ground.phase }, { on := 14, ground := Go.Ground.phase }, { on := 15, ground := Go.Ground.phase }, { on := 16, ground := Go.Ground.phase }, { on := 17, ground := Go.Ground.phase }], guard := none }) rfl (fun K hK => ?_) AllReadyH.nil
  have c18_15 : V3.cell? ⟨w.heap.size + 1 + 1, 15, none⟩ = some (.bool false) := HY3.out.cell 15
  have f18_15 := HY3.out.free 15
  go_simp
  have HY4 := Lib.hid (HY3.out.set_ 15 (.bool x.has))
  have HX4 := Lib.hid (HX3.out.far1 (g := (w.heap.size + 1 + 1)) (i := 15) (v := .bool x.has) (by omega))
  have HZ4 := Lib.hid (HZ3.out.far1 (g := (w.heap.size + 1 + 1)) (i := 15) (v := .bool x.has) (by omega))
  have HB4 := Lib.hid (HB3.out.setCell (p := ⟨(w.heap.size + 1 + 1), 15, none⟩) (by show w.heap.size ≤ w.heap.size + 1 + 1; omega) (.bool x.has))
  clear c18_15 f18_15
  refine hK.out _ _ HX4.out (fun hHeld => ?_)
  clear hK K
  try simp only [Act.put, List.setIfInBounds_toArray, List.set_cons_zero, List.set_cons_succ]
  clear HX3 HY3 HZ3 HB3
  change wpAnyH _ _ _ _ _ _ _ _ (V3.setCell ⟨w.heap.size + 1 + 1, 15, none⟩ (.bool x.has))
  generalize (V3.setCell ⟨w.heap.size + 1 + 1, 15, none⟩ (.bool x.has)) = V4 at *
  have hy4 := HY4.out
  simp only [Go.Proofs.Ythhajknmokomjaa.sets, NL.ev, NL.cs, NL.beg, List.setIfInBounds_toArray, List.set_cons_zero, List.set_cons_succ] at hy4
  clear HY4
  have HY4 := Lib.hid hy4
  clear hy4
  refine wpAnyH_take (i := 20) (oi := { dst := some 42, op := Go.Op.fieldAddr 31 (Go.Operand.tmp 4) 9, type := 0, pos := "ref.go:16", after := #[{ on := 0, ground := Go.Ground.phase }, { on := 1, ground := Go.Ground.phase }, { on := 2, ground := Go.Ground.phase }, { on := 3, ground := Go.Ground.phase }, { on := 4, ground := Go.Ground.phase }, { on := 5, ground := Go.Ground.phase }, { on := 6, ground := Go.Ground.phase }, { on := 7, ground := Go.Ground.phase }, { on := 8, ground := Go.Ground.phase }, { on := 9, ground := Go.Ground.phase }, { on := 10, ground := Go.Ground.textOnly Go.Departure.lateStores }, { on := 11, ground := Go.Ground.textOnly Go.Departure.lateStores }, { on := 12, ground := Go.Ground.phase }, { on := 13, ground := Go.Ground.phase }, { on := 14, ground := Go.Ground.phase }, { on := 15, ground := Go.Ground.phase }, { on := 16, ground := Go.Ground.phase }, { on := 17, ground := Go.Ground.phase }, { on := 18, ground := Go.Ground.phase }, { on := 19, ground := Go.Ground.phase }], guard := none }) (v := ?_) rfl (by kernel_rfl) (by kernel_rfl) (by kernel_rfl) (fun _ _ _ h => h) (Or.inl ⟨by rfl, ?_⟩) (by assumption) ?_
  rotate_left
  · intro wS hSw
    clear hSw
    go_simp
    try with_reducible rfl
  try simp only [Act.put, List.setIfInBounds_toArray, List.set_cons_zero, List.set_cons_succ]
  refine wpAnyH_ready (rs := [21]) (by kernel_rfl) (by simp) ?_
  refine AllReadyH.cons (o := { dst := none, op := Go.Op.store 25 (Go.Operand.tmp 42) (Go.Operand.tmp 35), type := 0, pos := "ref.go:16", after := #[{ on := 20, ground := Go.Ground.data }, { on := 9, ground := Go.Ground.data }, { on := 19, ground := Go.Ground.chain }, { on := 0, ground := Go.Ground.phase }, { on := 1, ground := Go.Ground.phase }, { on := 2, ground := Go.Ground.phase }, { on := 3, ground := Go.Ground.phase }, { on := 4, ground := Go.Ground.phase }, { on := 5, ground := Go.Ground.phase }, { on := 6, ground := Go.Ground.phase }, { on := 7, ground := Go.Ground.phase }, { on := 8, ground := Go.Ground.phase }, { on := 9, ground := Go.Ground.phase }, { on := 10, ground := Go.Ground.textOnly Go.Departure.lateStores }, { on := 11, ground := Go.Ground.textOnly Go.Departure.lateStores }, { on := 12, ground := Go.Ground.phase }, { on := 13, ground := Go.Ground.phase }, { on := 14, ground := Go.Ground.phase }, { on := 15, ground := Go.Ground.phase }, { on := 16, ground := Go.Ground.phase }, { on := 17, ground := Go.Ground.phase }, { on := 18, ground := Go.Ground.phase }, { on := 19, ground := Go.Ground.phase }], guard := none }) rfl (fun K hK => ?_) AllReadyH.nil
  have c20_19 : V4.cell? ⟨w.heap.size + 1 + 1, 19, none⟩ = some (.int .u32 0) := HY4.out.cell 19
  have f20_19 := HY4.out.free 19
  go_simp
  have HY5 := Lib.hid (HY4.out.set_ 19 (.int .u32 x.l1))
  have HX5 := Lib.hid (HX4.out.far1 (g := (w.heap.size + 1 + 1)) (i := 19) (v := .int .u32 x.l1) (by omega))
  have HZ5 := Lib.hid (HZ4.out.far1 (g := (w.heap.size + 1 + 1)) (i := 19) (v := .int .u32 x.l1) (by omega))
  have HB5 := Lib.hid (HB4.out.setCell (p := ⟨(w.heap.size + 1 + 1), 19, none⟩) (by show w.heap.size ≤ w.heap.size + 1 + 1; omega) (.int .u32 x.l1))
  clear c20_19 f20_19
  refine hK.out _ _ HX5.out (fun hHeld => ?_)
  clear hK K
  try simp only [Act.put, List.setIfInBounds_toArray, List.set_cons_zero, List.set_cons_succ]
  clear HX4 HY4 HZ4 HB4
  change wpAnyH _ _ _ _ _ _ _ _ (V4.setCell ⟨w.heap.size + 1 + 1, 19, none⟩ (.int .u32 x.l1))
  generalize (V4.setCell ⟨w.heap.size + 1 + 1, 19, none⟩ (.int .u32 x.l1)) = V5 at *
  have hy5 := HY5.out
  simp only [Go.Proofs.Ythhajknmokomjaa.sets, NL.ev, NL.cs, NL.beg, List.setIfInBounds_toArray, List.set_cons_zero, List.set_cons_succ] at hy5
  clear HY5
  have HY5 := Lib.hid hy5
  clear hy5
  refine wpAnyH_take (i := 22) (oi := { dst := some 43, op := Go.Op.fieldAddr 31 (Go.Operand.tmp 4) 10, type := 0, pos := "ref.go:16", after := #[{ on := 0, ground := Go.Ground.phase }, { on := 1, ground := Go.Ground.phase }, { on := 2, ground := Go.Ground.phase }, { on := 3, ground := Go.Ground.phase }, { on := 4, ground := Go.Ground.phase }, { on := 5, ground := Go.Ground.phase }, { on := 6, ground := Go.Ground.phase }, { on := 7, ground := Go.Ground.phase }, { on := 8, ground := Go.Ground.phase }, { on := 9, ground := Go.Ground.phase }, { on := 10, ground := Go.Ground.phase }, { on := 11, ground := Go.Ground.phase }, { on := 12, ground := Go.Ground.phase }, { on := 13, ground := Go.Ground.phase }, { on := 14, ground := Go.Ground.phase }, { on := 15, ground := Go.Ground.phase }, { on := 16, ground := Go.Ground.phase }, { on := 17, ground := Go.Ground.phase }, { on := 18, ground := Go.Ground.phase }, { on := 19, ground := Go.Ground.phase }, { on := 20, ground := Go.Ground.phase }, { on := 21, ground := Go.Ground.phase }], guard := none }) (v := ?_) rfl (by kernel_rfl) (by kernel_rfl) (by kernel_rfl) (fun _ _ _ h => h) (Or.inl ⟨by rfl, ?_⟩) (by assumption) ?_
  rotate_left
  · intro wS hSw
    clear hSw
    go_simp
    try with_reducible rfl
  try simp only [Act.put, List.setIfInBounds_toArray, List.set_cons_zero, List.set_cons_succ]
  refine wpAnyH_ready (rs := [23]) (by kernel_rfl) (by simp) ?_
  refine AllReadyH.cons (o := { dst := none, op := Go.Op.store 25 (Go.Operand.tmp 43) (Go.Operand.tmp 37), type := 0, pos := "ref.go:16", after := #[{ on := 22, ground := Go.Ground.data }, { on := 11, ground := Go.Ground.data }, { on := 21, ground := Go.Ground.chain }, { on := 0, ground := Go.Ground.phase }, { on := 1, ground := Go.Ground.phase }, { on := 2, ground := Go.Ground.phase }, { on := 3, ground := Go.Ground.phase }, { on := 4, ground := Go.Ground.phase }, { on := 5, ground := Go.Ground.phase }, { on := 6, ground := Go.Ground.phase }, { on := 7, ground := Go.Ground.phase }, { on := 8, ground := Go.Ground.phase }, { on := 9, ground := Go.Ground.phase }, { on := 10, ground := Go.Ground.phase }, { on := 11, ground := Go.Ground.phase }, { on := 12, ground := Go.Ground.phase }, { on := 13, ground := Go.Ground.phase }, { on := 14, ground := Go.Ground.phase }, { on := 15, ground := Go.Ground.phase }, { on := 16, ground := Go.Ground.phase }, { on := 17, ground := Go.Ground.phase }, { on := 18, ground := Go.Ground.phase }, { on := 19, ground := Go.Ground.phase }, { on := 20, ground := Go.Ground.phase }, { on := 21, ground := Go.Ground.phase }], guard := none }) rfl (fun K hK => ?_) AllReadyH.nil
  have c22_20 : V5.cell? ⟨w.heap.size + 1 + 1, 20, none⟩ = some (.int .u32 0) := HY5.out.cell 20
  have f22_20 := HY5.out.free 20
  go_simp
  have HY6 := Lib.hid (HY5.out.set_ 20 (.int .u32 x.l2))
  have HX6 := Lib.hid (HX5.out.far1 (g := (w.heap.size + 1 + 1)) (i := 20) (v := .int .u32 x.l2) (by omega))
  have HZ6 := Lib.hid (HZ5.out.far1 (g := (w.heap.size + 1 + 1)) (i := 20) (v := .int .u32 x.l2) (by omega))
  have HB6 := Lib.hid (HB5.out.setCell (p := ⟨(w.heap.size + 1 + 1), 20, none⟩) (by show w.heap.size ≤ w.heap.size + 1 + 1; omega) (.int .u32 x.l2))
  clear c22_20 f22_20
  refine hK.out _ _ HX6.out (fun hHeld => ?_)
  clear hK K
  try simp only [Act.put, List.setIfInBounds_toArray, List.set_cons_zero, List.set_cons_succ]
  clear HX5 HY5 HZ5 HB5
  change wpAnyH _ _ _ _ _ _ _ _ (V5.setCell ⟨w.heap.size + 1 + 1, 20, none⟩ (.int .u32 x.l2))
  generalize (V5.setCell ⟨w.heap.size + 1 + 1, 20, none⟩ (.int .u32 x.l2)) = V6 at *
  have hy6 := HY6.out
  simp only [Go.Proofs.Ythhajknmokomjaa.sets, NL.ev, NL.cs, NL.beg, List.setIfInBounds_toArray, List.set_cons_zero, List.set_cons_succ] at hy6
  clear HY6
  have HY6 := Lib.hid hy6
  clear hy6
  refine wpAnyH_done (by kernel_rfl) ?_ _
  have E2 : Hid (x.sh2 = ⟨x.k, x.rd, x.e0, x.e1, x.e2, x.e3, x.e4, x.e5, x.e6, x.e7, x.e8, x.e9, x.tag, x.mac, x.ip, x.has, 0, 0, 0, x.l1, x.l2⟩) := Lib.hid (by simp only [NL.sh2]; rw [HH.out]; rfl)
  have c15 : V6.cell? ⟨w.heap.size, 15, none⟩ = some (.bool true) := HX6.out.n15.trans (congrArg (fun z => some (Value.bool z)) HH.out)
  have c14 : V6.cell? ⟨w.heap.size, 14, none⟩ = some (.int .u32 x.ip) := HX6.out.n14
  have d14 : V6.cell? ⟨w.heap.size + 1 + 1, 14, none⟩ = some (.int .u32 0) := HY6.out.cell 14
  have f14 := HY6.out.free 14
  have HYn : Hid (Has (V6.setCell ⟨w.heap.size + 1 + 1, 14, none⟩ (.int .u32 x.ip)) (w.heap.size + 1 + 1) 31 x.sh2.cs) := Lib.hid (by rw [E2.out]; exact HY6.out.set_ 14 (.int .u32 x.ip))
  have HZn := Lib.hid (HZ6.out.far1 (g := (w.heap.size + 1 + 1)) (i := 14) (v := .int .u32 x.ip) (by omega))
  have HBn := Lib.hid (HB6.out.setCell (p := ⟨(w.heap.size + 1 + 1), 14, none⟩) (by show w.heap.size ≤ w.heap.size + 1 + 1; omega) (.int .u32 x.ip))
  go_wp2_with (first
    | (refine wpList_load_row rfl 31 (.tmp 4) rfl (w.heap.size + 1 + 1) rfl 31 x.sh2.cs (0, 0) _ HYn.out Try.underlying31 rfl x.sh2.fit ?_)
    | (refine wpList_store_row rfl 31 (.tmp 2) (.tmp 84) rfl (w.heap.size + 1) x.sh2.cs rfl rfl 31 zcs HZn.out x.sh2.fit rfl x.sh2.one ?_))
  exact bodyPost_ret (v := .tuple #[.agg x.sh2.cs, .bool true]) (results_cell_row_tmp rfl _ _ (w.heap.size + 1) 31 x.sh2.cs (0, 0) _ _ rfl rfl (setRow_heap _ _ _ _ _ _ HZn.out) Try.underlying31 rfl x.sh2.fit) rfl ⟨rfl, setRow_below HBn.out (by omega) HBn.out.size⟩

theorem ronly_yes (x : NL) (k : Nat) (hk : x.k = k) (h1 : 1 ≤ k) (h5 : k ≤ 5) (w : World) : Calls Try.prog 29 #[.agg x.cs] w fun e w' => e = .returned (.tuple #[.agg (x.sh k).cs, .bool true]) ∧ Below w.heap.size w w' := by
  have h : k = 1 ∨ k = 2 ∨ k = 3 ∨ k = 4 ∨ k = 5 := by omega
  rcases h with rfl | rfl | rfl | rfl | rfl
  · exact ronly_1 x hk w
  · cases hb : x.has
    · exact ronly_2false x hk hb w
    · exact ronly_2true x hk hb w
  · exact ronly_3 x hk w
  · exact ronly_4 x hk w
  · exact ronly_5 x hk w


end Go.Proofs.Ythhajknmokomjaa
