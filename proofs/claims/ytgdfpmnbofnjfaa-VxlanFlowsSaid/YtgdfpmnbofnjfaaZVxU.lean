/- VxlanFlows: the walk; written by gen_vxu.py. -/
import Derived.Test.YtgdfpmnbofnjfaaZVxG
import Derived.Test.YtgdfpmnbofnjfaaZVxQ
import Derived.Deep.RegionHeld3
namespace Go.Proofs.Ytgdfpmnbofnjfaa
open Go.RowKit Go.Shelf
set_option linter.unusedVariables false
set_option linter.unusedSimpArgs false
set_option maxRecDepth 100000

theorem Has.fsets {g : Nat} {t : TypeId} (vs : List Value) (o : Nat) (w : World) (cs : Array Value) (h : Has w g t cs) : Has (w.setCells g o vs) g t (Go.Proofs.Ytgdfpmnbofnjfaa.vsets cs o vs) := Has.vsets vs o w cs h
theorem Only.fsets {a : World} {g : Nat} (vs : List Value) (o : Nat) (W : World) (h : Only a g W) : Only a g (W.setCells g o vs) := Only.vsets vs o W h
theorem Has.vthere_f {w : World} {g : Nat} {t : TypeId} {cs : Array Value} (h : Has w g t cs) (o n : Nat) (hn : o + n ≤ cs.size) : w.there g o n := h.vthere o n hn
theorem arp_cs (x y : FR) : Go.Proofs.Ytgdfpmnbofnjfaa.vsets x.cs 3 (#[.int .i64 y.op, .int .u64 y.sm, .int .u32 y.si, .int .u64 y.tm, .int .u32 y.ti] : Array Value).toList = ({ x with op := y.op, sm := y.sm, si := y.si, tm := y.tm, ti := y.ti } : FR).cs := by
  simp only [Go.Proofs.Ytgdfpmnbofnjfaa.vsets, FR.cs, List.setIfInBounds_toArray, List.set_cons_zero, List.set_cons_succ]
theorem head_cs (x y : FR) : Go.Proofs.Ytgdfpmnbofnjfaa.vsets x.cs 8 (#[.int .u32 y.hs, .int .u32 y.hd, .int .i64 y.tl, .int .i64 y.pr, .int .i64 y.sp, .int .i64 y.dp] : Array Value).toList = ({ x with hs := y.hs, hd := y.hd, tl := y.tl, pr := y.pr, sp := y.sp, dp := y.dp } : FR).cs := by
  simp only [Go.Proofs.Ytgdfpmnbofnjfaa.vsets, FR.cs, List.setIfInBounds_toArray, List.set_cons_zero, List.set_cons_succ]
theorem step_store_mid {P : Program} {ops : Array Oper} {o : Oper} {a : Act} {w : World} {K : Act → World → Prop} {Q : Exit → Act → World → Prop} {E : Prop} (hgd : o.guard = none) (ty : TypeId) (x y : Operand) (ho : o.op = .store ty x y)
    (b i : Nat) (cells : Array Value) (hx : a.eval x = .pointer (some ⟨b, i, none⟩)) (hy : a.eval y = .agg cells)
    (ht : w.there b i cells.size) (hi : (P.info? ty).map (·.size) = some cells.size) (h1 : cells.all (·.oneCell') = true)
    (h : K (a.put o.dst undef) (w.setCells b i cells.toList)) : if Region.wanted o (yielded ops a.tmps) = true then Oper.wp P o a w K Q else E := by
  have hw : Region.wanted o (yielded ops a.tmps) = true := by simp [Region.wanted, hgd]
  rw [if_pos hw]
  exact wp_store_mid ty x y ho b i cells hx hy ht hi h1 h

set_option maxHeartbeats 4000000 in
theorem vflows_ip (x : FR) (hx : x.ty) (y : FR) (hy : y.ty) (hk : x.k = 2) (w : World) :
    Calls Try.prog 7 #[.agg x.cs, .agg y.cs] w fun e w' => e = .returned (.bool true) ∧ Below w.heap.size w w' := by
  have HE1 : Hid (∀ W : World, Calls Try.prog 19 #[.agg x.cs] W fun e w' => e = .returned (.int .i64 (ent x)) ∧ Below W.heap.size W w') := Lib.hid (entropy_any x hx)
  obtain ⟨z, hz⟩ : ∃ z : FR, { x with da := y.da, s := y.s, d := y.d, tl := y.tl, op := y.op, sm := y.sm, si := y.si, tm := y.tm, ti := y.ti } = z := ⟨_, rfl⟩
  have hzt : z.ty := hz ▸ ⟨hy.s, hy.d, hx.k, hy.op, hy.sm, hy.si, hy.tm, hy.ti, hx.hs, hx.hd, hy.tl, hx.pr, hx.sp, hx.dp, hy.da⟩
  have hze : ent z = ent x := by
    rw [← hz]
    unfold ent flowP
    rw [if_pos hk, if_pos (show ({ x with da := y.da, s := y.s, d := y.d, tl := y.tl, op := y.op, sm := y.sm, si := y.si, tm := y.tm, ti := y.ti } : FR).k = 2 from hk)]
  have HE2 : Hid (∀ W : World, Calls Try.prog 19 #[.agg z.cs] W fun e w' => e = .returned (.int .i64 (ent x)) ∧ Below W.heap.size W w') := Lib.hid (hze ▸ entropy_any z hzt)
  obtain ⟨hn0, hn1⟩ := ent_bd x
  obtain ⟨n, hn⟩ : ∃ n, ent x = n := ⟨_, rfl⟩
  rw [hn] at hn0 hn1 HE1 HE2
  have HZe := Lib.hid hz
  have HK := Lib.hid hk
  skip
  clear hx hy hzt hze hn hz hk
  obtain ⟨W1, hW1⟩ : ∃ W1, (w.alloc (.cells x.cs 32)).alloc (.cells y.cs 32) = W1 := ⟨_, rfl⟩
  have HX : Hid (Has W1 w.heap.size 32 x.cs) := Lib.hid (hW1 ▸ (Has.new w _ _).below ((Below.refl _ _).alloc (Nat.le_refl _) _))
  have HY : Hid (Has W1 (w.heap.size + 1) 32 y.cs) := Lib.hid (hW1 ▸ by
    have h1 := Has.new (w.alloc (.cells x.cs 32)) 32 y.cs
    rw [World.size_alloc] at h1
    exact h1)
  have HL : Hid (Below w.heap.size w W1) := Lib.hid (hW1 ▸ ((Below.refl _ w).alloc (Nat.le_refl _) _).alloc (by simp) _)
  go_enter Try.func7, Try.ntmps7
  go_upto_region 1 with fail
  try rw [hW1]
  clear hW1
  go_wp2_with fail
  refine (lives8 _).mono ?_
  rintro e w2 ⟨rfl, hb⟩
  have HX2 := Lib.hid (HX.out.below hb)
  have HY2 := Lib.hid (HY.out.below hb)
  have HL2 := Lib.hid (HL.out.trans (hb.mono HL.out.size))
  clear hb HX HY HL
  go_wp2_with (first | (refine wpList_load_row rfl 32 (.tmp 2) rfl w.heap.size rfl 32 x.cs (0, 0) _ HX2.out Try.underlying32 rfl x.fit ?_))
  refine (HE1.out _).mono ?_
  rintro e w3 ⟨rfl, hb⟩
  have HX := Lib.hid (HX2.out.below hb)
  have HY := Lib.hid (HY2.out.below hb)
  have HL := Lib.hid (HL2.out.trans (hb.mono HL2.out.size))
  clear hb HX2 HY2 HL2
  have hbn : Below w3.heap.size w3 (w3.alloc (.cells #[.int .u64 0, .int .u64 0, .int .i64 0, .int .i64 0, .int .u64 0, .int .u32 0, .int .u64 0, .int .u32 0, .int .u32 0, .int .u32 0, .int .i64 0, .int .i64 0, .int .i64 0, .int .i64 0, .int .u64 0] 32)) := (Below.refl _ w3).alloc (Nat.le_refl _) _
  have HN : Hid (Has (w3.alloc (.cells #[.int .u64 0, .int .u64 0, .int .i64 0, .int .i64 0, .int .u64 0, .int .u32 0, .int .u64 0, .int .u32 0, .int .u32 0, .int .u32 0, .int .i64 0, .int .i64 0, .int .i64 0, .int .i64 0, .int .u64 0] 32)) w3.heap.size 32 fr0.cs) := Lib.hid (Has.new _ _ _)
  have HXn := Lib.hid (HX.out.below hbn)
  have HYn := Lib.hid (HY.out.below hbn)
  have HLn := Lib.hid (HL.out.trans (hbn.mono HL.out.size))
  have HLt : Hid (w.heap.size + 1 < w3.heap.size) := Lib.hid HY.out.lt
  clear hbn
  go_upto_region 5 with (first
    | (refine wpList_load_row rfl 32 (.tmp 2) rfl w.heap.size rfl 32 x.cs (0, 0) _ HX.out Try.underlying32 rfl x.fit ?_)
    | (refine wpList_store_row rfl 32 (.tmp 6) (.tmp 11) rfl w3.heap.size x.cs rfl rfl 32 fr0.cs HN.out (FR.fit x) rfl (FR.one x) ?_; have HZ5 : Hid (Has ((w3.alloc (.cells #[.int .u64 0, .int .u64 0, .int .i64 0, .int .i64 0, .int .u64 0, .int .u32 0, .int .u64 0, .int .u32 0, .int .u32 0, .int .u32 0, .int .i64 0, .int .i64 0, .int .i64 0, .int .i64 0, .int .u64 0] 32)).setRow w3.heap.size x.cs) w3.heap.size 32 x.cs) := Lib.hid (setRow_heap _ _ _ _ _ HN.out); have HX5 : Hid (Has ((w3.alloc (.cells #[.int .u64 0, .int .u64 0, .int .i64 0, .int .i64 0, .int .u64 0, .int .u32 0, .int .u64 0, .int .u32 0, .int .u32 0, .int .u32 0, .int .i64 0, .int .i64 0, .int .i64 0, .int .i64 0, .int .u64 0] 32)).setRow w3.heap.size x.cs) w.heap.size 32 x.cs) := Lib.hid (HXn.out.grown (Only.row _) (by intro h9; injection h9 with h9; have := HLt.out; omega)); have HY5 : Hid (Has ((w3.alloc (.cells #[.int .u64 0, .int .u64 0, .int .i64 0, .int .i64 0, .int .u64 0, .int .u32 0, .int .u64 0, .int .u32 0, .int .u32 0, .int .u32 0, .int .i64 0, .int .i64 0, .int .i64 0, .int .i64 0, .int .u64 0] 32)).setRow w3.heap.size x.cs) (w.heap.size + 1) 32 y.cs) := Lib.hid (HYn.out.grown (Only.row _) (by intro h9; injection h9 with h9; have := HLt.out; omega)); have HL5 : Hid (Below w.heap.size w ((w3.alloc (.cells #[.int .u64 0, .int .u64 0, .int .i64 0, .int .i64 0, .int .u64 0, .int .u32 0, .int .u64 0, .int .u32 0, .int .u32 0, .int .u32 0, .int .i64 0, .int .i64 0, .int .i64 0, .int .i64 0, .int .u64 0] 32)).setRow w3.heap.size x.cs)) := Lib.hid (setRow_below HLn.out (Nat.le_of_lt (Nat.lt_of_succ_lt HLt.out)) HLn.out.size); generalize (w3.alloc (.cells #[.int .u64 0, .int .u64 0, .int .i64 0, .int .i64 0, .int .u64 0, .int .u32 0, .int .u64 0, .int .u32 0, .int .u32 0, .int .u32 0, .int .i64 0, .int .i64 0, .int .i64 0, .int .i64 0, .int .u64 0] 32)).setRow w3.heap.size x.cs = W5 at HZ5 HX5 HY5 HL5 ⊢; clear HN HXn HYn HLn HX HY HL))
  obtain ⟨B, hB⟩ : ∃ B, w3.heap.size = B := ⟨_, rfl⟩
  rw [hB] at HLt HZ5
  try rw [hB]
  clear hB
  have cy := HY5.out.f14
  have cz := HZ5.out.f14
  have fz := HZ5.out.free 14
  have HZ6 : Hid (Has (W5.setCell ⟨B, 14, none⟩ (.int .u64 y.da)) B 32 ({ x with da := y.da } : FR).cs) := Lib.hid (by have h := HZ5.out.set_ 14 (.int .u64 y.da); rw [set_da] at h; exact h)
  have HX6 : Hid (Has (W5.setCell ⟨B, 14, none⟩ (.int .u64 y.da)) w.heap.size 32 x.cs) := Lib.hid (HX5.out.grown (only_set (only_refl _ B) (p := ⟨B, 14, none⟩) (.inl rfl) _) (by intro h9; injection h9 with h9; have := HLt.out; omega))
  have HY6 : Hid (Has (W5.setCell ⟨B, 14, none⟩ (.int .u64 y.da)) (w.heap.size + 1) 32 y.cs) := Lib.hid (HY5.out.grown (only_set (only_refl _ B) (p := ⟨B, 14, none⟩) (.inl rfl) _) (by intro h9; injection h9 with h9; have := HLt.out; omega))
  have HL6 : Hid (Below w.heap.size w (W5.setCell ⟨B, 14, none⟩ (.int .u64 y.da))) := Lib.hid (HL5.out.setCell (p := ⟨B, 14, none⟩) (Nat.le_of_lt (Nat.lt_of_succ_lt HLt.out)) _)
  go_upto_region 6 with fail
  generalize W5.setCell ⟨B, 14, none⟩ (.int .u64 y.da) = W6 at HZ6 HX6 HY6 HL6 ⊢
  clear cy cz fz HZ5 HX5 HY5 HL5
  have ck := HX6.out.f2
  rw [HK.out] at ck
  go_upto_region 7 with fail
  have HZ : Hid (Has W6.drew B 32 ({ x with da := y.da } : FR).cs) := Lib.hid (HZ6.out.below (Below.refl _ W6).drew)
  have HY : Hid (Has W6.drew (w.heap.size + 1) 32 y.cs) := Lib.hid (HY6.out.below (Below.refl _ W6).drew)
  have HL : Hid (Below w.heap.size w W6.drew) := Lib.hid HL6.out.drew
  clear HZ6 HX6 HY6 HL6 ck
  go_wp2_with fail
  refine wp_region_held_drew (S := (fun w' => w'.cell? ⟨w.heap.size + 1, 0, none⟩ = some (.int .u64 y.s) ∧ w'.cell? ⟨w.heap.size + 1, 1, none⟩ = some (.int .u64 y.d) ∧ w'.cell? ⟨w.heap.size + 1, 3, none⟩ = some (.int .i64 y.op) ∧ w'.cell? ⟨w.heap.size + 1, 4, none⟩ = some (.int .u64 y.sm) ∧ w'.cell? ⟨w.heap.size + 1, 5, none⟩ = some (.int .u32 y.si) ∧ w'.cell? ⟨w.heap.size + 1, 6, none⟩ = some (.int .u64 y.tm) ∧ w'.cell? ⟨w.heap.size + 1, 7, none⟩ = some (.int .u32 y.ti) ∧ w'.cell? ⟨w.heap.size + 1, 10, none⟩ = some (.int .i64 y.tl))) (by kernel_rfl) (⟨HY.out.cell 0, HY.out.cell 1, HY.out.cell 3, HY.out.cell 4, HY.out.cell 5, HY.out.cell 6, HY.out.cell 7, HY.out.cell 10⟩) (fun hHeld => ?_)
  generalize W6.drew = W7 at *
  refine wpAnyH_take (i := 0) (oi := { dst := some 18, op := Go.Op.fieldAddr 32 (Go.Operand.tmp 3) 0, type := 0, pos := "law.go:120", after := #[], guard := none }) (v := ?_) rfl (by kernel_rfl) (by kernel_rfl) (by kernel_rfl) (fun _ _ _ h => h) (Or.inl ⟨by rfl, ?_⟩) (by assumption) ?_
  rotate_left
  · intro wS hSw
    try dsimp only at hSw
    go_split_ands
    go_simp
    try with_reducible rfl
  try simp only [Act.put, List.setIfInBounds_toArray, List.set_cons_zero, List.set_cons_succ]
  refine wpAnyH_take (i := 1) (oi := { dst := some 19, op := Go.Op.load 26 (Go.Operand.tmp 18), type := 26, pos := "law.go:120", after := #[{ on := 0, ground := Go.Ground.data }], guard := none }) (v := ?_) rfl (by kernel_rfl) (by kernel_rfl) (by kernel_rfl) (fun _ _ _ h => h) (Or.inl ⟨by rfl, ?_⟩) (by assumption) ?_
  rotate_left
  · intro wS hSw
    try dsimp only at hSw
    go_split_ands
    go_simp
    try with_reducible rfl
  try simp only [Act.put, List.setIfInBounds_toArray, List.set_cons_zero, List.set_cons_succ]
  refine wpAnyH_take (i := 2) (oi := { dst := some 20, op := Go.Op.fieldAddr 32 (Go.Operand.tmp 3) 1, type := 0, pos := "law.go:120", after := #[{ on := 10, ground := Go.Ground.gcOnly Go.Departure.lateStores }], guard := none }) (v := ?_) rfl (by kernel_rfl) (by kernel_rfl) (by kernel_rfl) (fun _ _ _ h => h) (Or.inl ⟨by rfl, ?_⟩) (by assumption) ?_
  rotate_left
  · intro wS hSw
    try dsimp only at hSw
    go_split_ands
    go_simp
    try with_reducible rfl
  try simp only [Act.put, List.setIfInBounds_toArray, List.set_cons_zero, List.set_cons_succ]
  refine wpAnyH_take (i := 3) (oi := { dst := some 21, op := Go.Op.load 26 (Go.Operand.tmp 20), type := 26, pos := "law.go:120", after := #[{ on := 2, ground := Go.Ground.data }, { on := 10, ground := Go.Ground.gcOnly Go.Departure.lateStores }], guard := none }) (v := ?_) rfl (by kernel_rfl) (by kernel_rfl) (by kernel_rfl) (fun _ _ _ h => h) (Or.inl ⟨by rfl, ?_⟩) (by assumption) ?_
  rotate_left
  · intro wS hSw
    try dsimp only at hSw
    go_split_ands
    go_simp
    try with_reducible rfl
  try simp only [Act.put, List.setIfInBounds_toArray, List.set_cons_zero, List.set_cons_succ]
  refine wpAnyH_take (i := 4) (oi := { dst := some 22, op := Go.Op.fieldAddr 32 (Go.Operand.tmp 3) 4, type := 0, pos := "law.go:120", after := #[{ on := 12, ground := Go.Ground.gcOnly Go.Departure.lateStores }], guard := none }) (v := ?_) rfl (by kernel_rfl) (by kernel_rfl) (by kernel_rfl) (fun _ _ _ h => h) (Or.inl ⟨by rfl, ?_⟩) (by assumption) ?_
  rotate_left
  · intro wS hSw
    try dsimp only at hSw
    go_split_ands
    go_simp
    try with_reducible rfl
  try simp only [Act.put, List.setIfInBounds_toArray, List.set_cons_zero, List.set_cons_succ]
  refine wpAnyH_take (i := 5) (oi := { dst := some 23, op := Go.Op.fieldAddr 30 (Go.Operand.tmp 22) 2, type := 0, pos := "law.go:120", after := #[{ on := 4, ground := Go.Ground.data }, { on := 12, ground := Go.Ground.gcOnly Go.Departure.lateStores }], guard := none }) (v := ?_) rfl (by kernel_rfl) (by kernel_rfl) (by kernel_rfl) (fun _ _ _ h => h) (Or.inl ⟨by rfl, ?_⟩) (by assumption) ?_
  rotate_left
  · intro wS hSw
    try dsimp only at hSw
    go_split_ands
    go_simp
    try with_reducible rfl
  try simp only [Act.put, List.setIfInBounds_toArray, List.set_cons_zero, List.set_cons_succ]
  refine wpAnyH_take (i := 6) (oi := { dst := some 24, op := Go.Op.load 3 (Go.Operand.tmp 23), type := 3, pos := "law.go:120", after := #[{ on := 5, ground := Go.Ground.data }, { on := 12, ground := Go.Ground.gcOnly Go.Departure.lateStores }], guard := none }) (v := ?_) rfl (by kernel_rfl) (by kernel_rfl) (by kernel_rfl) (fun _ _ _ h => h) (Or.inl ⟨by rfl, ?_⟩) (by assumption) ?_
  rotate_left
  · intro wS hSw
    try dsimp only at hSw
    go_split_ands
    go_simp
    try with_reducible rfl
  try simp only [Act.put, List.setIfInBounds_toArray, List.set_cons_zero, List.set_cons_succ]
  refine wpAnyH_take (i := 7) (oi := { dst := some 25, op := Go.Op.fieldAddr 32 (Go.Operand.tmp 3) 3, type := 0, pos := "law.go:120", after := #[{ on := 15, ground := Go.Ground.gcOnly Go.Departure.lateStores }], guard := none }) (v := ?_) rfl (by kernel_rfl) (by kernel_rfl) (by kernel_rfl) (fun _ _ _ h => h) (Or.inl ⟨by rfl, ?_⟩) (by assumption) ?_
  rotate_left
  · intro wS hSw
    try dsimp only at hSw
    go_split_ands
    go_simp
    try with_reducible rfl
  try simp only [Act.put, List.setIfInBounds_toArray, List.set_cons_zero, List.set_cons_succ]
  refine wpAnyH_take (i := 8) (oi := { dst := some 26, op := Go.Op.load 28 (Go.Operand.tmp 25), type := 28, pos := "law.go:120", after := #[{ on := 7, ground := Go.Ground.data }, { on := 15, ground := Go.Ground.gcOnly Go.Departure.lateStores }], guard := none }) (v := ?_) rfl (by kernel_rfl) (by kernel_rfl) (by kernel_rfl) (fun _ _ _ h => h) (Or.inl ⟨by rfl, ?_⟩) (by assumption) ?_
  rotate_left
  · intro wS hSw
    try dsimp only at hSw
    go_split_ands
    go_simp
    try with_reducible rfl
  try simp only [Act.put, List.setIfInBounds_toArray, List.set_cons_zero, List.set_cons_succ]
  refine wpAnyH_take (i := 9) (oi := { dst := some 27, op := Go.Op.fieldAddr 32 (Go.Operand.tmp 6) 0, type := 0, pos := "law.go:120", after := #[{ on := 0, ground := Go.Ground.phase }, { on := 1, ground := Go.Ground.phase }, { on := 2, ground := Go.Ground.textOnly Go.Departure.lateStores }, { on := 3, ground := Go.Ground.textOnly Go.Departure.lateStores }, { on := 4, ground := Go.Ground.textOnly Go.Departure.lateStores }, { on := 5, ground := Go.Ground.textOnly Go.Departure.lateStores }, { on := 6, ground := Go.Ground.textOnly Go.Departure.lateStores }, { on := 7, ground := Go.Ground.textOnly Go.Departure.lateStores }, { on := 8, ground := Go.Ground.textOnly Go.Departure.lateStores }], guard := none }) (v := ?_) rfl (by kernel_rfl) (by kernel_rfl) (by kernel_rfl) (fun _ _ _ h => h) (Or.inl ⟨by rfl, ?_⟩) (by assumption) ?_
  rotate_left
  · intro wS hSw
    try dsimp only at hSw
    go_split_ands
    go_simp
    try with_reducible rfl
  try simp only [Act.put, List.setIfInBounds_toArray, List.set_cons_zero, List.set_cons_succ]
  refine wpAnyH_ready (rs := [10]) (by kernel_rfl) (by simp) ?_
  refine AllReadyH.cons (o := { dst := none, op := Go.Op.store 26 (Go.Operand.tmp 27) (Go.Operand.tmp 19), type := 0, pos := "law.go:120", after := #[{ on := 9, ground := Go.Ground.data }, { on := 1, ground := Go.Ground.data }, { on := 0, ground := Go.Ground.phase }, { on := 1, ground := Go.Ground.phase }, { on := 2, ground := Go.Ground.textOnly Go.Departure.lateStores }, { on := 3, ground := Go.Ground.textOnly Go.Departure.lateStores }, { on := 4, ground := Go.Ground.textOnly Go.Departure.lateStores }, { on := 5, ground := Go.Ground.textOnly Go.Departure.lateStores }, { on := 6, ground := Go.Ground.textOnly Go.Departure.lateStores }, { on := 7, ground := Go.Ground.textOnly Go.Departure.lateStores }, { on := 8, ground := Go.Ground.textOnly Go.Departure.lateStores }], guard := none }) rfl (fun K hK => ?_) AllReadyH.nil
  have c0 := HZ.out.cell 0
  have f0 := HZ.out.free 0
  simp only [FR.cs, List.getElem?_toArray, List.getElem?_cons_zero, List.getElem?_cons_succ] at c0
  go_simp
  have HZ1 : Hid (Has (W7.setCell ⟨B, 0, none⟩ (.int .u64 y.s)) B 32 ({ x with da := y.da, s := y.s } : FR).cs) := Lib.hid (by have h := HZ.out.set_ 0 (.int .u64 y.s); rw [set_s] at h; exact h)
  have HY1 : Hid (Has (W7.setCell ⟨B, 0, none⟩ (.int .u64 y.s)) (w.heap.size + 1) 32 y.cs) := Lib.hid (HY.out.grown (only_set (only_refl _ B) (p := ⟨B, 0, none⟩) (.inl rfl) _) (by intro h9; injection h9 with h9; have := HLt.out; omega))
  have HL1 : Hid (Below w.heap.size w (W7.setCell ⟨B, 0, none⟩ (.int .u64 y.s))) := Lib.hid (HL.out.setCell (p := ⟨B, 0, none⟩) (Nat.le_of_lt (Nat.lt_of_succ_lt HLt.out)) _)
  refine hK.out _ _ (⟨HY1.out.cell 0, HY1.out.cell 1, HY1.out.cell 3, HY1.out.cell 4, HY1.out.cell 5, HY1.out.cell 6, HY1.out.cell 7, HY1.out.cell 10⟩) (fun hHeld => ?_)
  clear hK K c0 f0 HZ HY HL
  have HZ := HZ1
  have HY := HY1
  have HL := HL1
  clear HZ1 HY1 HL1
  try simp only [Act.put, List.setIfInBounds_toArray, List.set_cons_zero, List.set_cons_succ]
  generalize W7.setCell ⟨B, 0, none⟩ (.int .u64 y.s) = W8 at *
  refine wpAnyH_take (i := 11) (oi := { dst := some 28, op := Go.Op.fieldAddr 32 (Go.Operand.tmp 6) 1, type := 0, pos := "law.go:120", after := #[{ on := 0, ground := Go.Ground.phase }, { on := 1, ground := Go.Ground.phase }, { on := 2, ground := Go.Ground.phase }, { on := 3, ground := Go.Ground.phase }, { on := 4, ground := Go.Ground.textOnly Go.Departure.lateStores }, { on := 5, ground := Go.Ground.textOnly Go.Departure.lateStores }, { on := 6, ground := Go.Ground.textOnly Go.Departure.lateStores }, { on := 7, ground := Go.Ground.textOnly Go.Departure.lateStores }, { on := 8, ground := Go.Ground.textOnly Go.Departure.lateStores }, { on := 9, ground := Go.Ground.phase }, { on := 10, ground := Go.Ground.phase }], guard := none }) (v := ?_) rfl (by kernel_rfl) (by kernel_rfl) (by kernel_rfl) (fun _ _ _ h => h) (Or.inl ⟨by rfl, ?_⟩) (by assumption) ?_
  rotate_left
  · intro wS hSw
    try dsimp only at hSw
    go_split_ands
    go_simp
    try with_reducible rfl
  try simp only [Act.put, List.setIfInBounds_toArray, List.set_cons_zero, List.set_cons_succ]
  refine wpAnyH_ready (rs := [12]) (by kernel_rfl) (by simp) ?_
  refine AllReadyH.cons (o := { dst := none, op := Go.Op.store 26 (Go.Operand.tmp 28) (Go.Operand.tmp 21), type := 0, pos := "law.go:120", after := #[{ on := 11, ground := Go.Ground.data }, { on := 3, ground := Go.Ground.data }, { on := 10, ground := Go.Ground.chain }, { on := 0, ground := Go.Ground.phase }, { on := 1, ground := Go.Ground.phase }, { on := 2, ground := Go.Ground.phase }, { on := 3, ground := Go.Ground.phase }, { on := 4, ground := Go.Ground.textOnly Go.Departure.lateStores }, { on := 5, ground := Go.Ground.textOnly Go.Departure.lateStores }, { on := 6, ground := Go.Ground.textOnly Go.Departure.lateStores }, { on := 7, ground := Go.Ground.textOnly Go.Departure.lateStores }, { on := 8, ground := Go.Ground.textOnly Go.Departure.lateStores }, { on := 9, ground := Go.Ground.phase }, { on := 10, ground := Go.Ground.phase }], guard := none }) rfl (fun K hK => ?_) AllReadyH.nil
  have c0 := HZ.out.cell 1
  have f0 := HZ.out.free 1
  simp only [FR.cs, List.getElem?_toArray, List.getElem?_cons_zero, List.getElem?_cons_succ] at c0
  go_simp
  have HZ1 : Hid (Has (W8.setCell ⟨B, 1, none⟩ (.int .u64 y.d)) B 32 ({ x with da := y.da, s := y.s, d := y.d } : FR).cs) := Lib.hid (by have h := HZ.out.set_ 1 (.int .u64 y.d); rw [set_d] at h; exact h)
  have HY1 : Hid (Has (W8.setCell ⟨B, 1, none⟩ (.int .u64 y.d)) (w.heap.size + 1) 32 y.cs) := Lib.hid (HY.out.grown (only_set (only_refl _ B) (p := ⟨B, 1, none⟩) (.inl rfl) _) (by intro h9; injection h9 with h9; have := HLt.out; omega))
  have HL1 : Hid (Below w.heap.size w (W8.setCell ⟨B, 1, none⟩ (.int .u64 y.d))) := Lib.hid (HL.out.setCell (p := ⟨B, 1, none⟩) (Nat.le_of_lt (Nat.lt_of_succ_lt HLt.out)) _)
  refine hK.out _ _ (⟨HY1.out.cell 0, HY1.out.cell 1, HY1.out.cell 3, HY1.out.cell 4, HY1.out.cell 5, HY1.out.cell 6, HY1.out.cell 7, HY1.out.cell 10⟩) (fun hHeld => ?_)
  clear hK K c0 f0 HZ HY HL
  have HZ := HZ1
  have HY := HY1
  have HL := HL1
  clear HZ1 HY1 HL1
  try simp only [Act.put, List.setIfInBounds_toArray, List.set_cons_zero, List.set_cons_succ]
  generalize W8.setCell ⟨B, 1, none⟩ (.int .u64 y.d) = W9 at *
  refine wpAnyH_take (i := 13) (oi := { dst := some 29, op := Go.Op.fieldAddr 32 (Go.Operand.tmp 6) 4, type := 0, pos := "law.go:120", after := #[{ on := 0, ground := Go.Ground.phase }, { on := 1, ground := Go.Ground.phase }, { on := 2, ground := Go.Ground.phase }, { on := 3, ground := Go.Ground.phase }, { on := 4, ground := Go.Ground.phase }, { on := 5, ground := Go.Ground.phase }, { on := 6, ground := Go.Ground.phase }, { on := 7, ground := Go.Ground.textOnly Go.Departure.lateStores }, { on := 8, ground := Go.Ground.textOnly Go.Departure.lateStores }, { on := 9, ground := Go.Ground.phase }, { on := 10, ground := Go.Ground.phase }, { on := 11, ground := Go.Ground.phase }, { on := 12, ground := Go.Ground.phase }], guard := none }) (v := ?_) rfl (by kernel_rfl) (by kernel_rfl) (by kernel_rfl) (fun _ _ _ h => h) (Or.inl ⟨by rfl, ?_⟩) (by assumption) ?_
  rotate_left
  · intro wS hSw
    try dsimp only at hSw
    go_split_ands
    go_simp
    try with_reducible rfl
  try simp only [Act.put, List.setIfInBounds_toArray, List.set_cons_zero, List.set_cons_succ]
  refine wpAnyH_take (i := 14) (oi := { dst := some 30, op := Go.Op.fieldAddr 30 (Go.Operand.tmp 29) 2, type := 0, pos := "law.go:120", after := #[{ on := 13, ground := Go.Ground.data }, { on := 0, ground := Go.Ground.phase }, { on := 1, ground := Go.Ground.phase }, { on := 2, ground := Go.Ground.phase }, { on := 3, ground := Go.Ground.phase }, { on := 4, ground := Go.Ground.phase }, { on := 5, ground := Go.Ground.phase }, { on := 6, ground := Go.Ground.phase }, { on := 7, ground := Go.Ground.textOnly Go.Departure.lateStores }, { on := 8, ground := Go.Ground.textOnly Go.Departure.lateStores }, { on := 9, ground := Go.Ground.phase }, { on := 10, ground := Go.Ground.phase }, { on := 11, ground := Go.Ground.phase }, { on := 12, ground := Go.Ground.phase }], guard := none }) (v := ?_) rfl (by kernel_rfl) (by kernel_rfl) (by kernel_rfl) (fun _ _ _ h => h) (Or.inl ⟨by rfl, ?_⟩) (by assumption) ?_
  rotate_left
  · intro wS hSw
    try dsimp only at hSw
    go_split_ands
    go_simp
    try with_reducible rfl
  try simp only [Act.put, List.setIfInBounds_toArray, List.set_cons_zero, List.set_cons_succ]
  refine wpAnyH_ready (rs := [15]) (by kernel_rfl) (by simp) ?_
  refine AllReadyH.cons (o := { dst := none, op := Go.Op.store 3 (Go.Operand.tmp 30) (Go.Operand.tmp 24), type := 0, pos := "law.go:120", after := #[{ on := 14, ground := Go.Ground.data }, { on := 6, ground := Go.Ground.data }, { on := 12, ground := Go.Ground.chain }, { on := 0, ground := Go.Ground.phase }, { on := 1, ground := Go.Ground.phase }, { on := 2, ground := Go.Ground.phase }, { on := 3, ground := Go.Ground.phase }, { on := 4, ground := Go.Ground.phase }, { on := 5, ground := Go.Ground.phase }, { on := 6, ground := Go.Ground.phase }, { on := 7, ground := Go.Ground.textOnly Go.Departure.lateStores }, { on := 8, ground := Go.Ground.textOnly Go.Departure.lateStores }, { on := 9, ground := Go.Ground.phase }, { on := 10, ground := Go.Ground.phase }, { on := 11, ground := Go.Ground.phase }, { on := 12, ground := Go.Ground.phase }], guard := none }) rfl (fun K hK => ?_) AllReadyH.nil
  have c0 := HZ.out.cell 10
  have f0 := HZ.out.free 10
  simp only [FR.cs, List.getElem?_toArray, List.getElem?_cons_zero, List.getElem?_cons_succ] at c0
  go_simp
  have HZ1 : Hid (Has (W9.setCell ⟨B, 10, none⟩ (.int .i64 y.tl)) B 32 ({ x with da := y.da, s := y.s, d := y.d, tl := y.tl } : FR).cs) := Lib.hid (by have h := HZ.out.set_ 10 (.int .i64 y.tl); rw [set_tl] at h; exact h)
  have HY1 : Hid (Has (W9.setCell ⟨B, 10, none⟩ (.int .i64 y.tl)) (w.heap.size + 1) 32 y.cs) := Lib.hid (HY.out.grown (only_set (only_refl _ B) (p := ⟨B, 10, none⟩) (.inl rfl) _) (by intro h9; injection h9 with h9; have := HLt.out; omega))
  have HL1 : Hid (Below w.heap.size w (W9.setCell ⟨B, 10, none⟩ (.int .i64 y.tl))) := Lib.hid (HL.out.setCell (p := ⟨B, 10, none⟩) (Nat.le_of_lt (Nat.lt_of_succ_lt HLt.out)) _)
  refine hK.out _ _ (⟨HY1.out.cell 0, HY1.out.cell 1, HY1.out.cell 3, HY1.out.cell 4, HY1.out.cell 5, HY1.out.cell 6, HY1.out.cell 7, HY1.out.cell 10⟩) (fun hHeld => ?_)
  clear hK K c0 f0 HZ HY HL
  have HZ := HZ1
  have HY := HY1
  have HL := HL1
  clear HZ1 HY1 HL1
  try simp only [Act.put, List.setIfInBounds_toArray, List.set_cons_zero, List.set_cons_succ]
  generalize W9.setCell ⟨B, 10, none⟩ (.int .i64 y.tl) = W10 at *
  refine wpAnyH_take (i := 16) (oi := { dst := some 31, op := Go.Op.fieldAddr 32 (Go.Operand.tmp 6) 3, type := 0, pos := "law.go:120", after := #[{ on := 0, ground := Go.Ground.phase }, { on := 1, ground := Go.Ground.phase }, { on := 2, ground := Go.Ground.phase }, { on := 3, ground := Go.Ground.phase }, { on := 4, ground := Go.Ground.phase }, { on := 5, ground := Go.Ground.phase }, { on := 6, ground := Go.Ground.phase }, { on := 7, ground := Go.Ground.phase }, { on := 8, ground := Go.Ground.phase }, { on := 9, ground := Go.Ground.phase }, { on := 10, ground := Go.Ground.phase }, { on := 11, ground := Go.Ground.phase }, { on := 12, ground := Go.Ground.phase }, { on := 13, ground := Go.Ground.phase }, { on := 14, ground := Go.Ground.phase }, { on := 15, ground := Go.Ground.phase }], guard := none }) (v := ?_) rfl (by kernel_rfl) (by kernel_rfl) (by kernel_rfl) (fun _ _ _ h => h) (Or.inl ⟨by rfl, ?_⟩) (by assumption) ?_
  rotate_left
  · intro wS hSw
    try dsimp only at hSw
    go_split_ands
    go_simp
    try with_reducible rfl
  try simp only [Act.put, List.setIfInBounds_toArray, List.set_cons_zero, List.set_cons_succ]
  refine wpAnyH_ready (rs := [17]) (by kernel_rfl) (by simp) ?_
  refine AllReadyH.cons (o := { dst := none, op := Go.Op.store 28 (Go.Operand.tmp 31) (Go.Operand.tmp 26), type := 0, pos := "law.go:120", after := #[{ on := 16, ground := Go.Ground.data }, { on := 8, ground := Go.Ground.data }, { on := 15, ground := Go.Ground.chain }, { on := 0, ground := Go.Ground.phase }, { on := 1, ground := Go.Ground.phase }, { on := 2, ground := Go.Ground.phase }, { on := 3, ground := Go.Ground.phase }, { on := 4, ground := Go.Ground.phase }, { on := 5, ground := Go.Ground.phase }, { on := 6, ground := Go.Ground.phase }, { on := 7, ground := Go.Ground.phase }, { on := 8, ground := Go.Ground.phase }, { on := 9, ground := Go.Ground.phase }, { on := 10, ground := Go.Ground.phase }, { on := 11, ground := Go.Ground.phase }, { on := 12, ground := Go.Ground.phase }, { on := 13, ground := Go.Ground.phase }, { on := 14, ground := Go.Ground.phase }, { on := 15, ground := Go.Ground.phase }], guard := none }) rfl (fun K hK => ?_) AllReadyH.nil
  refine step_store_mid rfl 28 (.tmp 31) (.tmp 26) rfl B 3 #[.int .i64 y.op, .int .u64 y.sm, .int .u32 y.si, .int .u64 y.tm, .int .u32 y.ti] rfl rfl (HZ.out.vthere_f 3 5 (by simp [FR.size])) (by kernel_rfl) (by simp [Value.oneCell']) ?_
  have HZ1 : Hid (Has (W10.setCells B 3 (#[.int .i64 y.op, .int .u64 y.sm, .int .u32 y.si, .int .u64 y.tm, .int .u32 y.ti]).toList) B 32 ({ x with da := y.da, s := y.s, d := y.d, tl := y.tl, op := y.op, sm := y.sm, si := y.si, tm := y.tm, ti := y.ti } : FR).cs) := Lib.hid (by have h := Has.fsets (#[.int .i64 y.op, .int .u64 y.sm, .int .u32 y.si, .int .u64 y.tm, .int .u32 y.ti]).toList 3 _ _ HZ.out; rw [arp_cs] at h; exact h)
  have HY1 : Hid (Has (W10.setCells B 3 (#[.int .i64 y.op, .int .u64 y.sm, .int .u32 y.si, .int .u64 y.tm, .int .u32 y.ti]).toList) (w.heap.size + 1) 32 y.cs) := Lib.hid (HY.out.grown (Only.fsets _ _ _ (only_refl _ _)) (by intro h9; injection h9 with h9; have := HLt.out; omega))
  have HL1 : Hid (Below w.heap.size w (W10.setCells B 3 (#[.int .i64 y.op, .int .u64 y.sm, .int .u32 y.si, .int .u64 y.tm, .int .u32 y.ti]).toList)) := Lib.hid (below_only HL.out (Only.fsets _ _ _ (only_refl _ _)) (Nat.le_of_lt (Nat.lt_of_succ_lt HLt.out)) HL.out.size)
  refine hK.out _ _ (⟨HY1.out.cell 0, HY1.out.cell 1, HY1.out.cell 3, HY1.out.cell 4, HY1.out.cell 5, HY1.out.cell 6, HY1.out.cell 7, HY1.out.cell 10⟩) (fun hHeld => ?_)
  clear hK K HZ HY HL
  have HZ := HZ1
  have HY := HY1
  have HL := HL1
  clear HZ1 HY1 HL1
  try simp only [Act.put, List.setIfInBounds_toArray, List.set_cons_zero, List.set_cons_succ]
  generalize W10.setCells B 3 (#[.int .i64 y.op, .int .u64 y.sm, .int .u32 y.si, .int .u64 y.tm, .int .u32 y.ti]).toList = W11 at *
  refine wpAnyH_done (by kernel_rfl) ?_ _
  have HZz : Hid (Has W11 B 32 z.cs) := Lib.hid (HZe.out ▸ HZ.out)
  clear HZ HY
  go_wp2_with (first | (refine wpList_load_rowg (by rfl) 32 (.tmp 6) rfl B rfl 32 z.cs (0, 0) _ HZz.out Try.underlying32 rfl z.fit ?_))
  refine (HE2.out _).mono ?_
  rintro e w12 ⟨rfl, hb⟩
  have HLf := Lib.hid (HL.out.trans (hb.mono HL.out.size))
  clear hb HL HZz
  go_wp2_with fail
  go_ret
  exact ⟨rfl, HLf.out⟩

set_option maxHeartbeats 4000000 in
theorem vflows_no (x : FR) (hx : x.ty) (y : FR) (hy : y.ty) (hk : x.k ≠ 2) (w : World) :
    Calls Try.prog 7 #[.agg x.cs, .agg y.cs] w fun e w' => e = .returned (.bool true) ∧ Below w.heap.size w w' := by
  have HE1 : Hid (∀ W : World, Calls Try.prog 19 #[.agg x.cs] W fun e w' => e = .returned (.int .i64 (ent x)) ∧ Below W.heap.size W w') := Lib.hid (entropy_any x hx)
  obtain ⟨z, hz⟩ : ∃ z : FR, { x with da := y.da, hs := y.hs, hd := y.hd, tl := y.tl, pr := y.pr, sp := y.sp, dp := y.dp, op := y.op, sm := y.sm, si := y.si, tm := y.tm, ti := y.ti } = z := ⟨_, rfl⟩
  have hzt : z.ty := hz ▸ ⟨hx.s, hx.d, hx.k, hy.op, hy.sm, hy.si, hy.tm, hy.ti, hy.hs, hy.hd, hy.tl, hy.pr, hy.sp, hy.dp, hy.da⟩
  have hze : ent z = ent x := by
    rw [← hz]
    unfold ent flowP
    rw [if_neg hk, if_neg (show ¬ ({ x with da := y.da, hs := y.hs, hd := y.hd, tl := y.tl, pr := y.pr, sp := y.sp, dp := y.dp, op := y.op, sm := y.sm, si := y.si, tm := y.tm, ti := y.ti } : FR).k = 2 from hk)]
  have HE2 : Hid (∀ W : World, Calls Try.prog 19 #[.agg z.cs] W fun e w' => e = .returned (.int .i64 (ent x)) ∧ Below W.heap.size W w') := Lib.hid (hze ▸ entropy_any z hzt)
  obtain ⟨hn0, hn1⟩ := ent_bd x
  obtain ⟨n, hn⟩ : ∃ n, ent x = n := ⟨_, rfl⟩
  rw [hn] at hn0 hn1 HE1 HE2
  have HZe := Lib.hid hz
  have HK := Lib.hid hk
  have hne : (x.k == 2) = false := by simpa using hk
  clear hx hy hzt hze hn hz hk
  obtain ⟨W1, hW1⟩ : ∃ W1, (w.alloc (.cells x.cs 32)).alloc (.cells y.cs 32) = W1 := ⟨_, rfl⟩
  have HX : Hid (Has W1 w.heap.size 32 x.cs) := Lib.hid (hW1 ▸ (Has.new w _ _).below ((Below.refl _ _).alloc (Nat.le_refl _) _))
  have HY : Hid (Has W1 (w.heap.size + 1) 32 y.cs) := Lib.hid (hW1 ▸ by
    have h1 := Has.new (w.alloc (.cells x.cs 32)) 32 y.cs
    rw [World.size_alloc] at h1
    exact h1)
  have HL : Hid (Below w.heap.size w W1) := Lib.hid (hW1 ▸ ((Below.refl _ w).alloc (Nat.le_refl _) _).alloc (by simp) _)
  go_enter Try.func7, Try.ntmps7
  go_upto_region 1 with fail
  try rw [hW1]
  clear hW1
  go_wp2_with fail
  refine (lives8 _).mono ?_
  rintro e w2 ⟨rfl, hb⟩
  have HX2 := Lib.hid (HX.out.below hb)
  have HY2 := Lib.hid (HY.out.below hb)
  have HL2 := Lib.hid (HL.out.trans (hb.mono HL.out.size))
  clear hb HX HY HL
  go_wp2_with (first | (refine wpList_load_row rfl 32 (.tmp 2) rfl w.heap.size rfl 32 x.cs (0, 0) _ HX2.out Try.underlying32 rfl x.fit ?_))
  refine (HE1.out _).mono ?_
  rintro e w3 ⟨rfl, hb⟩
  have HX := Lib.hid (HX2.out.below hb)
  have HY := Lib.hid (HY2.out.below hb)
  have HL := Lib.hid (HL2.out.trans (hb.mono HL2.out.size))
  clear hb HX2 HY2 HL2
  have hbn : Below w3.heap.size w3 (w3.alloc (.cells #[.int .u64 0, .int .u64 0, .int .i64 0, .int .i64 0, .int .u64 0, .int .u32 0, .int .u64 0, .int .u32 0, .int .u32 0, .int .u32 0, .int .i64 0, .int .i64 0, .int .i64 0, .int .i64 0, .int .u64 0] 32)) := (Below.refl _ w3).alloc (Nat.le_refl _) _
  have HN : Hid (Has (w3.alloc (.cells #[.int .u64 0, .int .u64 0, .int .i64 0, .int .i64 0, .int .u64 0, .int .u32 0, .int .u64 0, .int .u32 0, .int .u32 0, .int .u32 0, .int .i64 0, .int .i64 0, .int .i64 0, .int .i64 0, .int .u64 0] 32)) w3.heap.size 32 fr0.cs) := Lib.hid (Has.new _ _ _)
  have HXn := Lib.hid (HX.out.below hbn)
  have HYn := Lib.hid (HY.out.below hbn)
  have HLn := Lib.hid (HL.out.trans (hbn.mono HL.out.size))
  have HLt : Hid (w.heap.size + 1 < w3.heap.size) := Lib.hid HY.out.lt
  clear hbn
  go_upto_region 5 with (first
    | (refine wpList_load_row rfl 32 (.tmp 2) rfl w.heap.size rfl 32 x.cs (0, 0) _ HX.out Try.underlying32 rfl x.fit ?_)
    | (refine wpList_store_row rfl 32 (.tmp 6) (.tmp 11) rfl w3.heap.size x.cs rfl rfl 32 fr0.cs HN.out (FR.fit x) rfl (FR.one x) ?_; have HZ5 : Hid (Has ((w3.alloc (.cells #[.int .u64 0, .int .u64 0, .int .i64 0, .int .i64 0, .int .u64 0, .int .u32 0, .int .u64 0, .int .u32 0, .int .u32 0, .int .u32 0, .int .i64 0, .int .i64 0, .int .i64 0, .int .i64 0, .int .u64 0] 32)).setRow w3.heap.size x.cs) w3.heap.size 32 x.cs) := Lib.hid (setRow_heap _ _ _ _ _ HN.out); have HX5 : Hid (Has ((w3.alloc (.cells #[.int .u64 0, .int .u64 0, .int .i64 0, .int .i64 0, .int .u64 0, .int .u32 0, .int .u64 0, .int .u32 0, .int .u32 0, .int .u32 0, .int .i64 0, .int .i64 0, .int .i64 0, .int .i64 0, .int .u64 0] 32)).setRow w3.heap.size x.cs) w.heap.size 32 x.cs) := Lib.hid (HXn.out.grown (Only.row _) (by intro h9; injection h9 with h9; have := HLt.out; omega)); have HY5 : Hid (Has ((w3.alloc (.cells #[.int .u64 0, .int .u64 0, .int .i64 0, .int .i64 0, .int .u64 0, .int .u32 0, .int .u64 0, .int .u32 0, .int .u32 0, .int .u32 0, .int .i64 0, .int .i64 0, .int .i64 0, .int .i64 0, .int .u64 0] 32)).setRow w3.heap.size x.cs) (w.heap.size + 1) 32 y.cs) := Lib.hid (HYn.out.grown (Only.row _) (by intro h9; injection h9 with h9; have := HLt.out; omega)); have HL5 : Hid (Below w.heap.size w ((w3.alloc (.cells #[.int .u64 0, .int .u64 0, .int .i64 0, .int .i64 0, .int .u64 0, .int .u32 0, .int .u64 0, .int .u32 0, .int .u32 0, .int .u32 0, .int .i64 0, .int .i64 0, .int .i64 0, .int .i64 0, .int .u64 0] 32)).setRow w3.heap.size x.cs)) := Lib.hid (setRow_below HLn.out (Nat.le_of_lt (Nat.lt_of_succ_lt HLt.out)) HLn.out.size); generalize (w3.alloc (.cells #[.int .u64 0, .int .u64 0, .int .i64 0, .int .i64 0, .int .u64 0, .int .u32 0, .int .u64 0, .int .u32 0, .int .u32 0, .int .u32 0, .int .i64 0, .int .i64 0, .int .i64 0, .int .i64 0, .int .u64 0] 32)).setRow w3.heap.size x.cs = W5 at HZ5 HX5 HY5 HL5 ⊢; clear HN HXn HYn HLn HX HY HL))
  obtain ⟨B, hB⟩ : ∃ B, w3.heap.size = B := ⟨_, rfl⟩
  rw [hB] at HLt HZ5
  try rw [hB]
  clear hB
  have cy := HY5.out.f14
  have cz := HZ5.out.f14
  have fz := HZ5.out.free 14
  have HZ6 : Hid (Has (W5.setCell ⟨B, 14, none⟩ (.int .u64 y.da)) B 32 ({ x with da := y.da } : FR).cs) := Lib.hid (by have h := HZ5.out.set_ 14 (.int .u64 y.da); rw [set_da] at h; exact h)
  have HX6 : Hid (Has (W5.setCell ⟨B, 14, none⟩ (.int .u64 y.da)) w.heap.size 32 x.cs) := Lib.hid (HX5.out.grown (only_set (only_refl _ B) (p := ⟨B, 14, none⟩) (.inl rfl) _) (by intro h9; injection h9 with h9; have := HLt.out; omega))
  have HY6 : Hid (Has (W5.setCell ⟨B, 14, none⟩ (.int .u64 y.da)) (w.heap.size + 1) 32 y.cs) := Lib.hid (HY5.out.grown (only_set (only_refl _ B) (p := ⟨B, 14, none⟩) (.inl rfl) _) (by intro h9; injection h9 with h9; have := HLt.out; omega))
  have HL6 : Hid (Below w.heap.size w (W5.setCell ⟨B, 14, none⟩ (.int .u64 y.da))) := Lib.hid (HL5.out.setCell (p := ⟨B, 14, none⟩) (Nat.le_of_lt (Nat.lt_of_succ_lt HLt.out)) _)
  go_upto_region 6 with fail
  generalize W5.setCell ⟨B, 14, none⟩ (.int .u64 y.da) = W6 at HZ6 HX6 HY6 HL6 ⊢
  clear cy cz fz HZ5 HX5 HY5 HL5
  have ck := HX6.out.f2
  skip
  go_upto_region 8 with fail
  have HZ : Hid (Has W6.drew B 32 ({ x with da := y.da } : FR).cs) := Lib.hid (HZ6.out.below (Below.refl _ W6).drew)
  have HY : Hid (Has W6.drew (w.heap.size + 1) 32 y.cs) := Lib.hid (HY6.out.below (Below.refl _ W6).drew)
  have HL : Hid (Below w.heap.size w W6.drew) := Lib.hid HL6.out.drew
  clear HZ6 HX6 HY6 HL6 ck
  go_wp2_with fail
  refine wp_region_held_drew (S := (fun w' => w'.cell? ⟨w.heap.size + 1, 3, none⟩ = some (.int .i64 y.op) ∧ w'.cell? ⟨w.heap.size + 1, 4, none⟩ = some (.int .u64 y.sm) ∧ w'.cell? ⟨w.heap.size + 1, 5, none⟩ = some (.int .u32 y.si) ∧ w'.cell? ⟨w.heap.size + 1, 6, none⟩ = some (.int .u64 y.tm) ∧ w'.cell? ⟨w.heap.size + 1, 7, none⟩ = some (.int .u32 y.ti) ∧ w'.cell? ⟨w.heap.size + 1, 8, none⟩ = some (.int .u32 y.hs) ∧ w'.cell? ⟨w.heap.size + 1, 9, none⟩ = some (.int .u32 y.hd) ∧ w'.cell? ⟨w.heap.size + 1, 10, none⟩ = some (.int .i64 y.tl) ∧ w'.cell? ⟨w.heap.size + 1, 11, none⟩ = some (.int .i64 y.pr) ∧ w'.cell? ⟨w.heap.size + 1, 12, none⟩ = some (.int .i64 y.sp) ∧ w'.cell? ⟨w.heap.size + 1, 13, none⟩ = some (.int .i64 y.dp))) (by kernel_rfl) (⟨HY.out.cell 3, HY.out.cell 4, HY.out.cell 5, HY.out.cell 6, HY.out.cell 7, HY.out.cell 8, HY.out.cell 9, HY.out.cell 10, HY.out.cell 11, HY.out.cell 12, HY.out.cell 13⟩) (fun hHeld => ?_)
  generalize W6.drew = W7 at *
  refine wpAnyH_take (i := 0) (oi := { dst := some 32, op := Go.Op.fieldAddr 32 (Go.Operand.tmp 3) 4, type := 0, pos := "law.go:122", after := #[], guard := none }) (v := ?_) rfl (by kernel_rfl) (by kernel_rfl) (by kernel_rfl) (fun _ _ _ h => h) (Or.inl ⟨by rfl, ?_⟩) (by assumption) ?_
  rotate_left
  · intro wS hSw
    try dsimp only at hSw
    go_split_ands
    go_simp
    try with_reducible rfl
  try simp only [Act.put, List.setIfInBounds_toArray, List.set_cons_zero, List.set_cons_succ]
  refine wpAnyH_take (i := 1) (oi := { dst := some 33, op := Go.Op.load 30 (Go.Operand.tmp 32), type := 30, pos := "law.go:122", after := #[{ on := 0, ground := Go.Ground.data }], guard := none }) (v := ?_) rfl (by kernel_rfl) (by kernel_rfl) (by kernel_rfl) (fun _ _ _ h => h) (Or.inl ⟨by rfl, ?_⟩) (by assumption) ?_
  rotate_left
  · intro wS hSw
    try dsimp only at hSw
    go_split_ands
    go_simp
    try with_reducible rfl
  try simp only [Act.put, List.setIfInBounds_toArray, List.set_cons_zero, List.set_cons_succ]
  refine wpAnyH_take (i := 2) (oi := { dst := some 34, op := Go.Op.fieldAddr 32 (Go.Operand.tmp 3) 3, type := 0, pos := "law.go:122", after := #[{ on := 5, ground := Go.Ground.gcOnly Go.Departure.lateStores }], guard := none }) (v := ?_) rfl (by kernel_rfl) (by kernel_rfl) (by kernel_rfl) (fun _ _ _ h => h) (Or.inl ⟨by rfl, ?_⟩) (by assumption) ?_
  rotate_left
  · intro wS hSw
    try dsimp only at hSw
    go_split_ands
    go_simp
    try with_reducible rfl
  try simp only [Act.put, List.setIfInBounds_toArray, List.set_cons_zero, List.set_cons_succ]
  refine wpAnyH_take (i := 3) (oi := { dst := some 35, op := Go.Op.load 28 (Go.Operand.tmp 34), type := 28, pos := "law.go:122", after := #[{ on := 2, ground := Go.Ground.data }, { on := 5, ground := Go.Ground.gcOnly Go.Departure.lateStores }], guard := none }) (v := ?_) rfl (by kernel_rfl) (by kernel_rfl) (by kernel_rfl) (fun _ _ _ h => h) (Or.inl ⟨by rfl, ?_⟩) (by assumption) ?_
  rotate_left
  · intro wS hSw
    try dsimp only at hSw
    go_split_ands
    go_simp
    try with_reducible rfl
  try simp only [Act.put, List.setIfInBounds_toArray, List.set_cons_zero, List.set_cons_succ]
  refine wpAnyH_take (i := 4) (oi := { dst := some 36, op := Go.Op.fieldAddr 32 (Go.Operand.tmp 6) 4, type := 0, pos := "law.go:122", after := #[{ on := 0, ground := Go.Ground.phase }, { on := 1, ground := Go.Ground.phase }, { on := 2, ground := Go.Ground.textOnly Go.Departure.lateStores }, { on := 3, ground := Go.Ground.textOnly Go.Departure.lateStores }], guard := none }) (v := ?_) rfl (by kernel_rfl) (by kernel_rfl) (by kernel_rfl) (fun _ _ _ h => h) (Or.inl ⟨by rfl, ?_⟩) (by assumption) ?_
  rotate_left
  · intro wS hSw
    try dsimp only at hSw
    go_split_ands
    go_simp
    try with_reducible rfl
  try simp only [Act.put, List.setIfInBounds_toArray, List.set_cons_zero, List.set_cons_succ]
  refine wpAnyH_ready (rs := [5]) (by kernel_rfl) (by simp) ?_
  refine AllReadyH.cons (o := { dst := none, op := Go.Op.store 30 (Go.Operand.tmp 36) (Go.Operand.tmp 33), type := 0, pos := "law.go:122", after := #[{ on := 4, ground := Go.Ground.data }, { on := 1, ground := Go.Ground.data }, { on := 0, ground := Go.Ground.phase }, { on := 1, ground := Go.Ground.phase }, { on := 2, ground := Go.Ground.textOnly Go.Departure.lateStores }, { on := 3, ground := Go.Ground.textOnly Go.Departure.lateStores }], guard := none }) rfl (fun K hK => ?_) AllReadyH.nil
  refine step_store_mid rfl 30 (.tmp 36) (.tmp 33) rfl B 8 #[.int .u32 y.hs, .int .u32 y.hd, .int .i64 y.tl, .int .i64 y.pr, .int .i64 y.sp, .int .i64 y.dp] rfl rfl (HZ.out.vthere_f 8 6 (by simp [FR.size])) (by kernel_rfl) (by simp [Value.oneCell']) ?_
  have HZ1 : Hid (Has (W7.setCells B 8 (#[.int .u32 y.hs, .int .u32 y.hd, .int .i64 y.tl, .int .i64 y.pr, .int .i64 y.sp, .int .i64 y.dp]).toList) B 32 ({ x with da := y.da, hs := y.hs, hd := y.hd, tl := y.tl, pr := y.pr, sp := y.sp, dp := y.dp } : FR).cs) := Lib.hid (by have h := Has.fsets (#[.int .u32 y.hs, .int .u32 y.hd, .int .i64 y.tl, .int .i64 y.pr, .int .i64 y.sp, .int .i64 y.dp]).toList 8 _ _ HZ.out; rw [head_cs] at h; exact h)
  have HY1 : Hid (Has (W7.setCells B 8 (#[.int .u32 y.hs, .int .u32 y.hd, .int .i64 y.tl, .int .i64 y.pr, .int .i64 y.sp, .int .i64 y.dp]).toList) (w.heap.size + 1) 32 y.cs) := Lib.hid (HY.out.grown (Only.fsets _ _ _ (only_refl _ _)) (by intro h9; injection h9 with h9; have := HLt.out; omega))
  have HL1 : Hid (Below w.heap.size w (W7.setCells B 8 (#[.int .u32 y.hs, .int .u32 y.hd, .int .i64 y.tl, .int .i64 y.pr, .int .i64 y.sp, .int .i64 y.dp]).toList)) := Lib.hid (below_only HL.out (Only.fsets _ _ _ (only_refl _ _)) (Nat.le_of_lt (Nat.lt_of_succ_lt HLt.out)) HL.out.size)
  refine hK.out _ _ (⟨HY1.out.cell 3, HY1.out.cell 4, HY1.out.cell 5, HY1.out.cell 6, HY1.out.cell 7, HY1.out.cell 8, HY1.out.cell 9, HY1.out.cell 10, HY1.out.cell 11, HY1.out.cell 12, HY1.out.cell 13⟩) (fun hHeld => ?_)
  clear hK K HZ HY HL
  have HZ := HZ1
  have HY := HY1
  have HL := HL1
  clear HZ1 HY1 HL1
  try simp only [Act.put, List.setIfInBounds_toArray, List.set_cons_zero, List.set_cons_succ]
  generalize W7.setCells B 8 (#[.int .u32 y.hs, .int .u32 y.hd, .int .i64 y.tl, .int .i64 y.pr, .int .i64 y.sp, .int .i64 y.dp]).toList = W8 at *
  refine wpAnyH_take (i := 6) (oi := { dst := some 37, op := Go.Op.fieldAddr 32 (Go.Operand.tmp 6) 3, type := 0, pos := "law.go:122", after := #[{ on := 0, ground := Go.Ground.phase }, { on := 1, ground := Go.Ground.phase }, { on := 2, ground := Go.Ground.phase }, { on := 3, ground := Go.Ground.phase }, { on := 4, ground := Go.Ground.phase }, { on := 5, ground := Go.Ground.phase }], guard := none }) (v := ?_) rfl (by kernel_rfl) (by kernel_rfl) (by kernel_rfl) (fun _ _ _ h => h) (Or.inl ⟨by rfl, ?_⟩) (by assumption) ?_
  rotate_left
  · intro wS hSw
    try dsimp only at hSw
    go_split_ands
    go_simp
    try with_reducible rfl
  try simp only [Act.put, List.setIfInBounds_toArray, List.set_cons_zero, List.set_cons_succ]
  refine wpAnyH_ready (rs := [7]) (by kernel_rfl) (by simp) ?_
  refine AllReadyH.cons (o := { dst := none, op := Go.Op.store 28 (Go.Operand.tmp 37) (Go.Operand.tmp 35), type := 0, pos := "law.go:122", after := #[{ on := 6, ground := Go.Ground.data }, { on := 3, ground := Go.Ground.data }, { on := 5, ground := Go.Ground.chain }, { on := 0, ground := Go.Ground.phase }, { on := 1, ground := Go.Ground.phase }, { on := 2, ground := Go.Ground.phase }, { on := 3, ground := Go.Ground.phase }, { on := 4, ground := Go.Ground.phase }, { on := 5, ground := Go.Ground.phase }], guard := none }) rfl (fun K hK => ?_) AllReadyH.nil
  refine step_store_mid rfl 28 (.tmp 37) (.tmp 35) rfl B 3 #[.int .i64 y.op, .int .u64 y.sm, .int .u32 y.si, .int .u64 y.tm, .int .u32 y.ti] rfl rfl (HZ.out.vthere_f 3 5 (by simp [FR.size])) (by kernel_rfl) (by simp [Value.oneCell']) ?_
  have HZ1 : Hid (Has (W8.setCells B 3 (#[.int .i64 y.op, .int .u64 y.sm, .int .u32 y.si, .int .u64 y.tm, .int .u32 y.ti]).toList) B 32 ({ x with da := y.da, hs := y.hs, hd := y.hd, tl := y.tl, pr := y.pr, sp := y.sp, dp := y.dp, op := y.op, sm := y.sm, si := y.si, tm := y.tm, ti := y.ti } : FR).cs) := Lib.hid (by have h := Has.fsets (#[.int .i64 y.op, .int .u64 y.sm, .int .u32 y.si, .int .u64 y.tm, .int .u32 y.ti]).toList 3 _ _ HZ.out; rw [arp_cs] at h; exact h)
  have HY1 : Hid (Has (W8.setCells B 3 (#[.int .i64 y.op, .int .u64 y.sm, .int .u32 y.si, .int .u64 y.tm, .int .u32 y.ti]).toList) (w.heap.size + 1) 32 y.cs) := Lib.hid (HY.out.grown (Only.fsets _ _ _ (only_refl _ _)) (by intro h9; injection h9 with h9; have := HLt.out; omega))
  have HL1 : Hid (Below w.heap.size w (W8.setCells B 3 (#[.int .i64 y.op, .int .u64 y.sm, .int .u32 y.si, .int .u64 y.tm, .int .u32 y.ti]).toList)) := Lib.hid (below_only HL.out (Only.fsets _ _ _ (only_refl _ _)) (Nat.le_of_lt (Nat.lt_of_succ_lt HLt.out)) HL.out.size)
  refine hK.out _ _ (⟨HY1.out.cell 3, HY1.out.cell 4, HY1.out.cell 5, HY1.out.cell 6, HY1.out.cell 7, HY1.out.cell 8, HY1.out.cell 9, HY1.out.cell 10, HY1.out.cell 11, HY1.out.cell 12, HY1.out.cell 13⟩) (fun hHeld => ?_)
  clear hK K HZ HY HL
  have HZ := HZ1
  have HY := HY1
  have HL := HL1
  clear HZ1 HY1 HL1
  try simp only [Act.put, List.setIfInBounds_toArray, List.set_cons_zero, List.set_cons_succ]
  generalize W8.setCells B 3 (#[.int .i64 y.op, .int .u64 y.sm, .int .u32 y.si, .int .u64 y.tm, .int .u32 y.ti]).toList = W11 at *
  refine wpAnyH_done (by kernel_rfl) ?_ _
  have HZz : Hid (Has W11 B 32 z.cs) := Lib.hid (HZe.out ▸ HZ.out)
  clear HZ HY
  go_wp2_with (first | (refine wpList_load_rowg (by rfl) 32 (.tmp 6) rfl B rfl 32 z.cs (0, 0) _ HZz.out Try.underlying32 rfl z.fit ?_))
  refine (HE2.out _).mono ?_
  rintro e w12 ⟨rfl, hb⟩
  have HLf := Lib.hid (HL.out.trans (hb.mono HL.out.size))
  clear hb HL HZz
  go_wp2_with fail
  go_ret
  exact ⟨rfl, HLf.out⟩

theorem vflows_any (x : FR) (hx : x.ty) (y : FR) (hy : y.ty) (w : World) :
    Calls Try.prog 7 #[.agg x.cs, .agg y.cs] w fun e w' => e = .returned (.bool true) ∧ Below w.heap.size w w' := by
  by_cases hk : x.k = 2
  · exact vflows_ip x hx y hy hk w
  · exact vflows_no x hx y hy hk w

end Go.Proofs.Ytgdfpmnbofnjfaa
