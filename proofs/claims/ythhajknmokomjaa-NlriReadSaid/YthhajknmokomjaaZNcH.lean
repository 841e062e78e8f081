/- Routes: the document's Bytes of kind 5; written by gen_nch.py. -/
import Derived.Test.YthhajknmokomjaaZNcG
import Derived.Deep.RegionHeld3
import Derived.Deep.AppendLies
namespace Go.Proofs.Ythhajknmokomjaa
open Go.RowKit Go.Maps Go.Shelf
set_option linter.unusedVariables false
set_option linter.unusedSimpArgs false
set_option maxRecDepth 100000

theorem chk_vld {x : NL} (hc : chk x = 0) : vld x.pl = true := by
  obtain ⟨_, _, h3, _⟩ := chk_zero hc
  simp only [NL.far, Bool.or_eq_false_iff, decide_eq_false_iff_not, Bool.not_eq_false'] at h3
  exact h3.2

set_option maxHeartbeats 2000000 in
theorem rbytes_5 (x : NL) (hk : x.k = 5) (hx : x.ty) (hc : chk x = 0) (w : World) :
    Calls Try.prog 7 #[.agg x.cs] w (EncR w x) := by
  obtain ⟨i0, hi0, hz0, hz1, hz2⟩ := info_parts info_u8
  have HX1 : Hid (Has (w.alloc (.cells x.cs 31)) w.heap.size 31 x.cs) := Lib.hid (Has.new _ _ _)
  have HB1 : Hid (Below w.heap.size w (w.alloc (.cells x.cs 31))) := Lib.hid ((Below.refl _ w).alloc (Nat.le_refl _) _)
  have HC := Lib.hid hc
  have HK := Lib.hid hk
  have HT := Lib.hid hx
  obtain ⟨t1, t2⟩ := wide_u64 hx.tag
  obtain ⟨t3, t4⟩ := wide_u64 hx.l1
  obtain ⟨hp0, hp32⟩ := vld_iff.1 (chk_vld hc)
  have hwp : IntKind.u8.wrap x.pl = x.pl := by rw [wrap_u8 _ hp0 (by omega)]
  have hmp : x.pl % 256 = x.pl := by omega
  obtain ⟨t5, t6⟩ := wide_u64 hx.pip
  obtain ⟨t7, t8⟩ := wide_u64 hx.gw
  have HPl : Hid (be x.pl 1 = [x.pl]) := Lib.hid (by simp [be]; omega)
  clear hk hx hc
  go_enter Try.func7, Try.ntmps7
  go_wp2_with (first
    | (refine wpList_load_row rfl 31 (.tmp 1) rfl w.heap.size rfl 31 x.cs (0, 0) _ HX1.out Try.underlying31 rfl x.fit ?_)
    | (go_at_call 11; refine (rcheck_any x _).mono ?_; rintro e w2 ⟨rfl, hb2⟩; rw [HC.out]; have HX2 := Lib.hid (HX1.out.below hb2); have HB2 : Hid (Below w.heap.size w w2) := Lib.hid (HB1.out.trans (hb2.mono HB1.out.size)); have c1 := HX2.out.n1; clear hb2))
  have hlt := HX2.out.lt
  refine (rput_8 (w.heap.size + 1) _ [] x.rd HT.out.rd (by simp) _ (Ou.nil _ _) hlt).mono ?_
  rintro e w3 ⟨A3, c3, rfl, ho3, hb3⟩
  obtain ⟨P3, hP3⟩ : ∃ P, ([] : List Int) ++ be x.rd 8 = P := ⟨_, rfl⟩
  have l3 : P3.length = 8 := by rw [← hP3]; simp [be_length]
  rw [hP3] at ho3 ⊢
  rw [l3]
  have HP3 := Lib.hid hP3
  have HO3 := Lib.hid (ou_len l3 ho3)
  have HB3 : Hid (Below w.heap.size w w3) := Lib.hid (HB2.out.trans (hb3.mono (by omega)))
  have HX3 : Hid (Has w3 w.heap.size 31 x.cs) := Lib.hid (HX2.out.belowB (by omega) hb3)
  have HS3 : Hid (w.heap.size + 1 ≤ w3.heap.size) := Lib.hid (Nat.le_trans hlt hb3.size)
  have c0 : w3.cell? ⟨w.heap.size, 0, none⟩ = some (.int .i64 5) := HX3.out.n0.trans (congrArg (fun z => some (Value.int .i64 z)) HK.out)
  have c12 := HX3.out.n12
  have L3 := Lib.hid l3
  clear hP3 ho3 hb3 hlt c1 l3
  go_wp2_with (at_builtin; refine wpList_append_own _ rfl (.tmp 17) (.tmp 19) 34 rfl (w.heap.size + 1) 5 i0 (.int .u8 0) 1 1 Try.underlying34 hi0 hz0 hz1 hz2 rfl (by decide) (.slice A3 8 c3) 8 (u8s P3) rfl HO3.out ⟨w.heap.size, 2, none⟩ 10 10 x.ev rfl rfl (fun j u hu => by rw [Addr.add_mid]; exact has_esi HX3.out j u hu) x.ev_one (by unfold maxLen; omega) (by omega) HS3.out ?_; intro v4 w4 hown4 hgrow4 hnil4; obtain ⟨A4, c4, rfl⟩ := own_form hown4; have HO4 := Lib.hid hown4; have HB4 : Hid (Below (w.heap.size + 1) w3 w4) := Lib.hid (own_bel HO3.out (Below.refl _ w3) hgrow4 HS3.out (Nat.le_refl _)); have HX4 : Hid (Has w4 w.heap.size 31 x.cs) := Lib.hid (HX3.out.belowB (Nat.lt_succ_self _) HB4.out); have d0 : w4.cell? ⟨w.heap.size, 0, none⟩ = some (.int .i64 5) := HX4.out.n0.trans (congrArg (fun z => some (Value.int .i64 z)) HK.out); have d12 := HX4.out.n12; clear hown4 hgrow4 hnil4)
  have HQ4 : Hid ((P3 ++ x.esi).length = 18) := Lib.hid (by rw [List.length_append, L3.out, NL.esi_len])
  have ho4 : Ou w4 (w.heap.size + 1) (.slice A4 18 c4) (P3 ++ x.esi) := ou_of HQ4.out (by rw [← u8s_app, ← ev_u8s]; exact HO4.out)
  refine (rput_4 (w.heap.size + 1) _ (P3 ++ x.esi) x.tag HT.out.tag (by rw [HQ4.out]; omega) _ ho4 (Nat.le_trans HS3.out HB4.out.size)).mono ?_
  rintro e w5 ⟨A5, c5, rfl, ho5, hb5⟩
  obtain ⟨P5, hP5⟩ : ∃ P, P3 ++ x.esi ++ be x.tag 4 = P := ⟨_, rfl⟩
  have l5 : P5.length = 22 := by rw [← hP5, List.length_append, HQ4.out, be_length]
  rw [hP5] at ho5 ⊢
  rw [l5]
  have HP5 := Lib.hid hP5
  have HO5 := Lib.hid ho5
  have HB5 : Hid (Below (w.heap.size + 1) w3 w5) := Lib.hid (HB4.out.trans hb5)
  have HX5 : Hid (Has w5 w.heap.size 31 x.cs) := Lib.hid (HX4.out.belowB (Nat.lt_succ_self _) hb5)
  have e0 : w5.cell? ⟨w.heap.size, 0, none⟩ = some (.int .i64 5) := HX5.out.n0.trans (congrArg (fun z => some (Value.int .i64 z)) HK.out)
  have e19 := HX5.out.n19
  have L5 := Lib.hid l5
  clear hP5 ho5 hb5 l5 ho4 c0 c12 d0 d12
  go_wp2_with fail
  have HX5d : Hid (Has w5.drew w.heap.size 31 x.cs) := Lib.hid HX5.out
  have HO5d : Hid ((w5.drew.alloc (.cells #[.int .u8 x.pl] 5)).ownsRow (w.heap.size + 1) 5 1 (.slice A5 22 c5) 22 (u8s P5)) := Lib.hid (own_keep (ou_len L5.out HO5.out) ((Below.refl _ w5).drew.alloc (Nat.le_refl _) _))
  have HB5d : Hid (Below (w.heap.size + 1) w3 (w5.drew.alloc (.cells #[.int .u8 x.pl] 5))) := Lib.hid (HB5.out.drew.alloc (Nat.le_trans HS3.out HB5.out.size) _)
  have HS5d : Hid (w.heap.size + 1 ≤ (w5.drew.alloc (.cells #[.int .u8 x.pl] 5)).heap.size) := Lib.hid (Nat.le_trans HS3.out HB5d.out.size)
  refine wp_region_held_drew (S := fun w' => Has w' w.heap.size 31 x.cs) (by kernel_rfl) HX5d.out (fun hHeld => ?_)
  refine wpAnyH_take (i := 0) (oi := { dst := some 70, op := Go.Op.move (Go.Operand.tmp 5), type := 34, pos := "ref.go:88", after := #[], guard := none }) (v := ?_) rfl (by kernel_rfl) (by kernel_rfl) (by kernel_rfl) (fun _ _ _ h => h) (Or.inl ⟨by rfl, ?_⟩) (by assumption) ?_
  rotate_left
  · intro wS hSw
    clear hSw
    go_simp
    try with_reducible rfl
  try simp only [Act.put, List.setIfInBounds_toArray, List.set_cons_zero, List.set_cons_succ]
  refine wpAnyH_take (i := 1) (oi := { dst := some 71, op := Go.Op.fieldAddr 31 (Go.Operand.tmp 1) 7, type := 0, pos := "ref.go:88", after := #[], guard := none }) (v := ?_) rfl (by kernel_rfl) (by kernel_rfl) (by kernel_rfl) (fun _ _ _ h => h) (Or.inl ⟨by rfl, ?_⟩) (by assumption) ?_
  rotate_left
  · intro wS hSw
    clear hSw
    go_simp
    try with_reducible rfl
  try simp only [Act.put, List.setIfInBounds_toArray, List.set_cons_zero, List.set_cons_succ]
  refine wpAnyH_take (i := 2) (oi := { dst := some 72, op := Go.Op.fieldAddr 29 (Go.Operand.tmp 71) 1, type := 0, pos := "ref.go:88", after := #[{ on := 1, ground := Go.Ground.data }], guard := none }) (v := ?_) rfl (by kernel_rfl) (by kernel_rfl) (by kernel_rfl) (fun _ _ _ h => h) (Or.inl ⟨by rfl, ?_⟩) (by assumption) ?_
  rotate_left
  · intro wS hSw
    clear hSw
    go_simp
    try with_reducible rfl
  try simp only [Act.put, List.setIfInBounds_toArray, List.set_cons_zero, List.set_cons_succ]
  refine wpAnyH_take (i := 3) (oi := { dst := some 73, op := Go.Op.load 3 (Go.Operand.tmp 72), type := 3, pos := "ref.go:88", after := #[{ on := 2, ground := Go.Ground.data }], guard := none }) (v := ?_) rfl (by kernel_rfl) (by kernel_rfl) (by kernel_rfl) (fun _ _ _ h => h) (Or.inl ⟨by rfl, ?_⟩) (by assumption) ?_
  rotate_left
  · intro wS hSw
    have q17 := Has.n17 hSw
    clear hSw
    go_simp
    try with_reducible rfl
  try simp only [Act.put, List.setIfInBounds_toArray, List.set_cons_zero, List.set_cons_succ]
  refine wpAnyH_take (i := 4) (oi := { dst := some 74, op := Go.Op.convert 3 5 (Go.Operand.tmp 73), type := 5, pos := "ref.go:88", after := #[{ on := 3, ground := Go.Ground.data }], guard := none }) (v := ?_) rfl (by kernel_rfl) (by kernel_rfl) (by kernel_rfl) (fun _ _ _ h => h) (Or.inl ⟨by rfl, ?_⟩) (by assumption) ?_
  rotate_left
  · intro wS hSw
    clear hSw
    go_simp
    try with_reducible rfl
  try simp only [Act.put, List.setIfInBounds_toArray, List.set_cons_zero, List.set_cons_succ]
  refine wpAnyH_take (i := 7) (oi := { dst := some 77, op := Go.Op.fieldAddr 31 (Go.Operand.tmp 1) 7, type := 0, pos := "ref.go:88", after := #[], guard := none }) (v := ?_) rfl (by kernel_rfl) (by kernel_rfl) (by kernel_rfl) (fun _ _ _ h => h) (Or.inl ⟨by rfl, ?_⟩) (by assumption) ?_
  rotate_left
  · intro wS hSw
    clear hSw
    go_simp
    try with_reducible rfl
  try simp only [Act.put, List.setIfInBounds_toArray, List.set_cons_zero, List.set_cons_succ]
  refine wpAnyH_take (i := 8) (oi := { dst := some 78, op := Go.Op.fieldAddr 29 (Go.Operand.tmp 77) 0, type := 0, pos := "ref.go:88", after := #[{ on := 7, ground := Go.Ground.data }], guard := none }) (v := ?_) rfl (by kernel_rfl) (by kernel_rfl) (by kernel_rfl) (fun _ _ _ h => h) (Or.inl ⟨by rfl, ?_⟩) (by assumption) ?_
  rotate_left
  · intro wS hSw
    clear hSw
    go_simp
    try with_reducible rfl
  try simp only [Act.put, List.setIfInBounds_toArray, List.set_cons_zero, List.set_cons_succ]
  refine wpAnyH_take (i := 9) (oi := { dst := some 79, op := Go.Op.load 27 (Go.Operand.tmp 78), type := 27, pos := "ref.go:88", after := #[{ on := 8, ground := Go.Ground.data }], guard := none }) (v := ?_) rfl (by kernel_rfl) (by kernel_rfl) (by kernel_rfl) (fun _ _ _ h => h) (Or.inl ⟨by rfl, ?_⟩) (by assumption) ?_
  rotate_left
  · intro wS hSw
    have q16 := Has.n16 hSw
    clear hSw
    go_simp
    try with_reducible rfl
  try simp only [Act.put, List.setIfInBounds_toArray, List.set_cons_zero, List.set_cons_succ]
  refine wpAnyH_take (i := 10) (oi := { dst := some 80, op := Go.Op.convert 27 22 (Go.Operand.tmp 79), type := 22, pos := "ref.go:88", after := #[{ on := 9, ground := Go.Ground.data }], guard := none }) (v := ?_) rfl (by kernel_rfl) (by kernel_rfl) (by kernel_rfl) (fun _ _ _ h => h) (Or.inl ⟨by rfl, ?_⟩) (by assumption) ?_
  rotate_left
  · intro wS hSw
    clear hSw
    go_simp
    try with_reducible rfl
  try simp only [Act.put, List.setIfInBounds_toArray, List.set_cons_zero, List.set_cons_succ]
  refine wpAnyH_ready (rs := [5]) (by kernel_rfl) (by simp) ?_
  refine AllReadyH.cons (o := { dst := some 75, op := Go.Op.buildSlice 34 1 #[(0, Go.Operand.tmp 74)], type := 34, pos := "ref.go:88", after := #[{ on := 4, ground := Go.Ground.data }], guard := none }) rfl (fun K hK => ?_) AllReadyH.nil
  go_simp
  have HX6a : Hid (Has (w5.drew.alloc (.cells #[.int .u8 x.pl] 5)) w.heap.size 31 x.cs) := Lib.hid (HX5d.out.below ((Below.refl _ w5.drew).alloc (Nat.le_refl _) _))
  refine hK.out _ _ (HX6a.out) (fun hHeld => ?_)
  clear hK K
  try simp only [Act.put, List.setIfInBounds_toArray, List.set_cons_zero, List.set_cons_succ]
  refine wpAnyH_ready (rs := [6]) (by kernel_rfl) (by simp) ?_
  refine AllReadyH.cons (o := { dst := some 76, op := Go.Op.call { callee := Go.Callee.builtin Go.Builtin.append, args := #[Go.Operand.tmp 70, Go.Operand.tmp 75], argTypes := #[34, 34] }, type := 34, pos := "ref.go:88", after := #[{ on := 0, ground := Go.Ground.data }, { on := 5, ground := Go.Ground.data }], guard := none }) rfl (fun K hK => ?_) AllReadyH.nil
  refine step_append_lies _ rfl (.tmp 70) (.tmp 75) 34 rfl (w.heap.size + 1) 5 i0 (.int .u8 0) 1 1 Try.underlying34 hi0 hz0 hz1 hz2 rfl (by decide) (.slice A5 22 c5) 22 (u8s P5) rfl HO5d.out ⟨w5.heap.size, 0, none⟩ 1 1 [.int .u8 x.pl] rfl rfl (news_block (w := w5.drew)) (by simp [Value.oneCell']) (by omega) (by unfold maxLen; omega) (by omega) HS5d.out _ rfl ?_
  intro g7 c7 w7 hown7 hgrow7 hor7 hlt7
  have HO7 := Lib.hid (one_more L5.out.symm hown7)
  have HB7 : Hid (Below (w.heap.size + 1) w3 w7) := Lib.hid (own_bel HO5d.out HB5d.out hgrow7 HS5d.out (Nat.le_refl _))
  have HX7 : Hid (Has w7 w.heap.size 31 x.cs) := Lib.hid (HX3.out.belowB (Nat.lt_succ_self _) HB7.out)
  clear hown7 hgrow7 hor7 hlt7
  refine hK.out _ _ (HX7.out) (fun hHeld => ?_)
  clear hK K
  try simp only [Act.put, List.setIfInBounds_toArray, List.set_cons_zero, List.set_cons_succ]
  refine wpAnyH_ready (rs := [11]) (by kernel_rfl) (by simp) ?_
  refine AllReadyH.cons (o := { dst := some 81, op := Go.Op.call { callee := Go.Callee.value (Go.Operand.func 26), args := #[Go.Operand.tmp 76, Go.Operand.tmp 80, Go.Operand.const (Go.Value.int Go.IntKind.i64 4)], argTypes := #[34, 22, 3] }, type := 34, pos := "ref.go:88", after := #[{ on := 6, ground := Go.Ground.data }, { on := 10, ground := Go.Ground.data }, { on := 6, ground := Go.Ground.chain }], guard := none }) rfl (fun K hK => ?_) AllReadyH.nil
  go_simp
  go_at_call 26
  have HQ7 : Hid ((P5 ++ [x.pl]).length = 23) := Lib.hid (by rw [List.length_append, L5.out]; rfl)
  refine (rput_4 (w.heap.size + 1) _ (P5 ++ [x.pl]) x.pip HT.out.pip (by rw [HQ7.out]; omega) _ HO7.out (Nat.le_trans HS3.out HB7.out.size)).mono ?_
  rintro e w8 ⟨A8, c8, rfl, ho8, hb8⟩
  obtain ⟨P8, hP8⟩ : ∃ P, P5 ++ [x.pl] ++ be x.pip 4 = P := ⟨_, rfl⟩
  have l8 : P8.length = 27 := by rw [← hP8, List.length_append, HQ7.out, be_length]
  rw [hP8] at ho8 ⊢
  rw [l8]
  have HP8 := Lib.hid hP8
  have L8 := Lib.hid l8
  have HO8 := Lib.hid ho8
  have HB8 : Hid (Below (w.heap.size + 1) w3 w8) := Lib.hid (HB7.out.trans hb8)
  have HX8 : Hid (Has w8 w.heap.size 31 x.cs) := Lib.hid (HX7.out.belowB (Nat.lt_succ_self _) hb8)
  clear ho8 hb8 hP8 l8
  refine hK.out _ _ (HX8.out) (fun hHeld => ?_)
  clear hK K
  try simp only [Act.put, List.setIfInBounds_toArray, List.set_cons_zero, List.set_cons_succ]
  refine wpAnyH_take (i := 12) (oi := { dst := some 5, op := Go.Op.assign (Go.Operand.tmp 81), type := 34, pos := "ref.go:88", after := #[{ on := 11, ground := Go.Ground.data }, { on := 11, ground := Go.Ground.chain }, { on := 0, ground := Go.Ground.phase }, { on := 1, ground := Go.Ground.phase }, { on := 2, ground := Go.Ground.phase }, { on := 3, ground := Go.Ground.phase }, { on := 4, ground := Go.Ground.phase }, { on := 5, ground := Go.Ground.phase }, { on := 6, ground := Go.Ground.phase }, { on := 7, ground := Go.Ground.phase }, { on := 8, ground := Go.Ground.phase }, { on := 9, ground := Go.Ground.phase }, { on := 10, ground := Go.Ground.phase }, { on := 11, ground := Go.Ground.phase }], guard := none }) (v := ?_) rfl (by kernel_rfl) (by kernel_rfl) (by kernel_rfl) (fun _ _ _ h => h) (Or.inl ⟨by rfl, ?_⟩) (by assumption) ?_
  rotate_left
  · intro wS hSw
    clear hSw
    go_simp
    try with_reducible rfl
  try simp only [Act.put, List.setIfInBounds_toArray, List.set_cons_zero, List.set_cons_succ]
  refine wpAnyH_done (by kernel_rfl) ?_ _
  go_wp2_with fail
  have HX8d : Hid (Has w8.drew w.heap.size 31 x.cs) := Lib.hid HX8.out
  refine wp_region_held_drew (S := fun w' => Has w' w.heap.size 31 x.cs) (by kernel_rfl) HX8d.out (fun hHeld => ?_)
  refine wpAnyH_take (i := 0) (oi := { dst := some 82, op := Go.Op.move (Go.Operand.tmp 5), type := 34, pos := "ref.go:89", after := #[], guard := none }) (v := ?_) rfl (by kernel_rfl) (by kernel_rfl) (by kernel_rfl) (fun _ _ _ h => h) (Or.inl ⟨by rfl, ?_⟩) (by assumption) ?_
  rotate_left
  · intro wS hSw
    clear hSw
    go_simp
    try with_reducible rfl
  try simp only [Act.put, List.setIfInBounds_toArray, List.set_cons_zero, List.set_cons_succ]
  refine wpAnyH_take (i := 1) (oi := { dst := some 83, op := Go.Op.fieldAddr 31 (Go.Operand.tmp 1) 8, type := 0, pos := "ref.go:89", after := #[], guard := none }) (v := ?_) rfl (by kernel_rfl) (by kernel_rfl) (by kernel_rfl) (fun _ _ _ h => h) (Or.inl ⟨by rfl, ?_⟩) (by assumption) ?_
  rotate_left
  · intro wS hSw
    clear hSw
    go_simp
    try with_reducible rfl
  try simp only [Act.put, List.setIfInBounds_toArray, List.set_cons_zero, List.set_cons_succ]
  refine wpAnyH_take (i := 2) (oi := { dst := some 84, op := Go.Op.load 27 (Go.Operand.tmp 83), type := 27, pos := "ref.go:89", after := #[{ on := 1, ground := Go.Ground.data }], guard := none }) (v := ?_) rfl (by kernel_rfl) (by kernel_rfl) (by kernel_rfl) (fun _ _ _ h => h) (Or.inl ⟨by rfl, ?_⟩) (by assumption) ?_
  rotate_left
  · intro wS hSw
    have q18 := Has.n18 hSw
    clear hSw
    go_simp
    try with_reducible rfl
  try simp only [Act.put, List.setIfInBounds_toArray, List.set_cons_zero, List.set_cons_succ]
  refine wpAnyH_take (i := 3) (oi := { dst := some 85, op := Go.Op.convert 27 22 (Go.Operand.tmp 84), type := 22, pos := "ref.go:89", after := #[{ on := 2, ground := Go.Ground.data }], guard := none }) (v := ?_) rfl (by kernel_rfl) (by kernel_rfl) (by kernel_rfl) (fun _ _ _ h => h) (Or.inl ⟨by rfl, ?_⟩) (by assumption) ?_
  rotate_left
  · intro wS hSw
    clear hSw
    go_simp
    try with_reducible rfl
  try simp only [Act.put, List.setIfInBounds_toArray, List.set_cons_zero, List.set_cons_succ]
  refine wpAnyH_take (i := 5) (oi := { dst := some 87, op := Go.Op.fieldAddr 31 (Go.Operand.tmp 1) 9, type := 0, pos := "ref.go:89", after := #[], guard := none }) (v := ?_) rfl (by kernel_rfl) (by kernel_rfl) (by kernel_rfl) (fun _ _ _ h => h) (Or.inl ⟨by rfl, ?_⟩) (by assumption) ?_
  rotate_left
  · intro wS hSw
    clear hSw
    go_simp
    try with_reducible rfl
  try simp only [Act.put, List.setIfInBounds_toArray, List.set_cons_zero, List.set_cons_succ]
  refine wpAnyH_take (i := 6) (oi := { dst := some 88, op := Go.Op.load 25 (Go.Operand.tmp 87), type := 25, pos := "ref.go:89", after := #[{ on := 5, ground := Go.Ground.data }], guard := none }) (v := ?_) rfl (by kernel_rfl) (by kernel_rfl) (by kernel_rfl) (fun _ _ _ h => h) (Or.inl ⟨by rfl, ?_⟩) (by assumption) ?_
  rotate_left
  · intro wS hSw
    have q19 := Has.n19 hSw
    clear hSw
    go_simp
    try with_reducible rfl
  try simp only [Act.put, List.setIfInBounds_toArray, List.set_cons_zero, List.set_cons_succ]
  refine wpAnyH_take (i := 7) (oi := { dst := some 89, op := Go.Op.convert 25 22 (Go.Operand.tmp 88), type := 22, pos := "ref.go:89", after := #[{ on := 6, ground := Go.Ground.data }], guard := none }) (v := ?_) rfl (by kernel_rfl) (by kernel_rfl) (by kernel_rfl) (fun _ _ _ h => h) (Or.inl ⟨by rfl, ?_⟩) (by assumption) ?_
  rotate_left
  · intro wS hSw
    clear hSw
    go_simp
    try with_reducible rfl
  try simp only [Act.put, List.setIfInBounds_toArray, List.set_cons_zero, List.set_cons_succ]
  refine wpAnyH_ready (rs := [4]) (by kernel_rfl) (by simp) ?_
  refine AllReadyH.cons (o := { dst := some 86, op := Go.Op.call { callee := Go.Callee.value (Go.Operand.func 26), args := #[Go.Operand.tmp 82, Go.Operand.tmp 85, Go.Operand.const (Go.Value.int Go.IntKind.i64 4)], argTypes := #[34, 22, 3] }, type := 34, pos := "ref.go:89", after := #[{ on := 0, ground := Go.Ground.data }, { on := 3, ground := Go.Ground.data }], guard := none }) rfl (fun K hK => ?_) AllReadyH.nil
  go_simp
  go_at_call 26
  refine (rput_4 (w.heap.size + 1) _ P8 x.gw HT.out.gw (by rw [L8.out]; omega) _ (Ou.below (w := w8) (by have h := HO8.out; rw [L8.out] at h; exact h) (Below.refl _ w8).drew) (Nat.le_trans HS3.out HB8.out.size)).mono ?_
  rintro e w9 ⟨A9, c9, rfl, ho9, hb9⟩
  obtain ⟨P9, hP9⟩ : ∃ P, P8 ++ be x.gw 4 = P := ⟨_, rfl⟩
  have l9 : P9.length = 31 := by rw [← hP9, List.length_append, L8.out, be_length]
  rw [hP9] at ho9 ⊢
  rw [l9]
  have HP9 := Lib.hid hP9
  have L9 := Lib.hid l9
  have HO9 := Lib.hid ho9
  have HB9 : Hid (Below (w.heap.size + 1) w3 w9) := Lib.hid (HB8.out.drew.trans hb9)
  have HX9 : Hid (Has w9 w.heap.size 31 x.cs) := Lib.hid (HX8d.out.belowB (Nat.lt_succ_self _) hb9)
  clear ho9 hb9 hP9 l9
  refine hK.out _ _ (HX9.out) (fun hHeld => ?_)
  clear hK K
  try simp only [Act.put, List.setIfInBounds_toArray, List.set_cons_zero, List.set_cons_succ]
  refine wpAnyH_ready (rs := [8]) (by kernel_rfl) (by simp) ?_
  refine AllReadyH.cons (o := { dst := some 90, op := Go.Op.call { callee := Go.Callee.value (Go.Operand.func 26), args := #[Go.Operand.tmp 86, Go.Operand.tmp 89, Go.Operand.const (Go.Value.int Go.IntKind.i64 3)], argTypes := #[34, 22, 3] }, type := 34, pos := "ref.go:89", after := #[{ on := 4, ground := Go.Ground.data }, { on := 7, ground := Go.Ground.data }, { on := 4, ground := Go.Ground.chain }], guard := none }) rfl (fun K hK => ?_) AllReadyH.nil
  go_simp
  go_at_call 26
  refine (rput_3 (w.heap.size + 1) _ P9 x.l1 HT.out.l1 (by rw [L9.out]; omega) _ (by have h := HO9.out; rw [L9.out] at h; exact h) (Nat.le_trans HS3.out HB9.out.size)).mono ?_
  rintro e w6 ⟨A6, c6, rfl, ho6, hb6⟩
  obtain ⟨P6, hP6⟩ : ∃ P, P9 ++ be x.l1 3 = P := ⟨_, rfl⟩
  have l6 : P6.length = 34 := by rw [← hP6, List.length_append, L9.out, be_length]
  rw [hP6] at ho6 ⊢
  rw [l6]
  have HE : Hid (enc x = [5, 34] ++ P6) := Lib.hid (by
    have hv : x.val x.k.toNat = P6 := by rw [HK.out, ← hP6, ← HP9.out, ← HP8.out, ← HP5.out, ← HP3.out]; simp [NL.val, NL.val5, HPl.out]
    rw [enc, hv, l6, HK.out]; rfl)
  have HO6 := Lib.hid (ou_len l6 ho6)
  obtain ⟨g6, rfl, hg6, hc6⟩ := own_some (by omega) HO6.out
  have HC6 := Lib.hid hc6
  have HB6 : Hid (Below (w.heap.size + 1) w3 w6) := Lib.hid (HB9.out.trans hb6)
  have HX6 : Hid (Has w6 w.heap.size 31 x.cs) := Lib.hid (HX9.out.belowB (Nat.lt_succ_self _) hb6)
  have HS6 : Hid (w.heap.size + 1 ≤ w6.heap.size) := Lib.hid (Nat.le_trans HS3.out HB6.out.size)
  have k0 : w6.cell? ⟨w.heap.size, 0, none⟩ = some (.int .i64 5) := HX6.out.n0.trans (congrArg (fun z => some (Value.int .i64 z)) HK.out)
  have L6 := Lib.hid l6
  have HG6 := Lib.hid hg6
  clear hP6 ho6 hb6 l6 hc6 hg6
  refine hK.out _ _ (HX6.out) (fun hHeld => ?_)
  clear hK K
  try simp only [Act.put, List.setIfInBounds_toArray, List.set_cons_zero, List.set_cons_succ]
  refine wpAnyH_take (i := 9) (oi := { dst := some 5, op := Go.Op.assign (Go.Operand.tmp 90), type := 34, pos := "ref.go:89", after := #[{ on := 8, ground := Go.Ground.data }, { on := 8, ground := Go.Ground.chain }, { on := 0, ground := Go.Ground.phase }, { on := 1, ground := Go.Ground.phase }, { on := 2, ground := Go.Ground.phase }, { on := 3, ground := Go.Ground.phase }, { on := 4, ground := Go.Ground.phase }, { on := 5, ground := Go.Ground.phase }, { on := 6, ground := Go.Ground.phase }, { on := 7, ground := Go.Ground.phase }, { on := 8, ground := Go.Ground.phase }], guard := none }) (v := ?_) rfl (by kernel_rfl) (by kernel_rfl) (by kernel_rfl) (fun _ _ _ h => h) (Or.inl ⟨by rfl, ?_⟩) (by assumption) ?_
  rotate_left
  · intro wS hSw
    clear hSw
    go_simp
    try with_reducible rfl
  try simp only [Act.put, List.setIfInBounds_toArray, List.set_cons_zero, List.set_cons_succ]
  refine wpAnyH_done (by kernel_rfl) ?_ _
  have HOt := Lib.hid (own_two HS6.out 5 34)
  go_wp2_with (at_builtin; refine wpList_append_own _ rfl (.tmp 97) (.tmp 98) 34 rfl (w.heap.size + 1) 5 i0 (.int .u8 0) 1 1 Try.underlying34 hi0 hz0 hz1 hz2 rfl (by decide) (.slice (some ⟨w6.heap.size, 0, none⟩) 2 2) 2 (u8s [5, 34]) rfl HOt.out ⟨g6, 0, none⟩ 34 c6 (u8s P6) rfl (by simp [L6.out]) (fun j u hu => (((Below.refl _ w6).alloc (Nat.le_refl _) _).cell (p := (⟨g6, 0, none⟩ : Addr).add j) (by rw [Addr.add_mid]; exact HG6.out)).trans (HC6.out j u hu)) (u8s_one _) (by unfold maxLen; omega) (by omega) (Nat.le_trans HS6.out (by simp)) ?_; intro v10 w10 hown10 hgrow10 hnil10; obtain ⟨A10, c10, rfl⟩ := own_form hown10; have HO10 := Lib.hid hown10; have HB10 : Hid (Below w.heap.size w w10) := Lib.hid (HB3.out.trans ((HB6.out.trans (own_bel HOt.out ((Below.refl _ w6).alloc HS6.out _) hgrow10 (Nat.le_trans HS6.out (by simp)) (Nat.le_refl _))).mono (by omega))); clear hown10 hgrow10 hnil10)
  have hE : (enc x).length = 36 := by rw [HE.out, List.length_append, L6.out]; rfl
  go_ret2
  refine ⟨A10, c10, by rw [hE]; rfl, ?_, HB10.out⟩
  rw [hE]
  refine ou_of hE ?_
  rw [HE.out, ← u8s_app]
  exact HO10.out

end Go.Proofs.Ythhajknmokomjaa
