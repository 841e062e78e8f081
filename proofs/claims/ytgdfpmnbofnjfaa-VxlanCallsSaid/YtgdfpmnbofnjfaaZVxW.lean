/- VxlanCalls: the walk; written by gen_vxw.py. -/
import Derived.Test.YtgdfpmnbofnjfaaZVxN
import Derived.Test.YtgdfpmnbofnjfaaZVxF
import Derived.Test.YtgdfpmnbofnjfaaZVxG
import Derived.Test.YtgdfpmnbofnjfaaZVyB
import Derived.Test.YtgdfpmnbofnjfaaZVyC
namespace Go.Proofs.Ytgdfpmnbofnjfaa
open Go.RowKit Go.Shelf
set_option linter.unusedVariables false
set_option linter.unusedSimpArgs false
set_option maxRecDepth 100000

/-- What Bytes answers, as a text. -/
def vsx (x : VP) : ByteArray := if vchk x = 0 then strOfNums (venc x) else ByteArray.empty
def VTxt (x : VP) (W : World) (e : Ending) (w' : World) : Prop := ∃ A n c, e = .returned (.tuple #[.slice A n c, .int .i64 (vchk x)]) ∧ Below W.heap.size W w' ∧ ∀ w2, Below w'.heap.size w' w2 → (convert 40 9 (.slice A n c)).run Try.prog w2 = .ok (.string (vsx x)) w2
theorem vstr_nil (w : World) : (convert 40 9 (.slice none 0 0)).run Try.prog w = .ok (.string ByteArray.empty) w :=
  run_convert_bytes_nil w 40 5 Try.underlying40 Try.underlying5 0 0 9 Try.underlying9
theorem venc_txt {x : VP} (hc : vchk x = 0) {W w' : World} {e : Ending} (h : VEnc W x e w') : VTxt x W e w' := by
  obtain ⟨b, c, rfl, hrow, hsz, hb⟩ := h
  refine ⟨_, _, _, by rw [hc], hb, fun w2 h2 => ?_⟩
  rw [vsx, if_pos hc]
  exact arr_string ((row_arr hrow rfl).below h2) (by rw [venc_len]; omega)
theorem vno_txt {x : VP} (hc : vchk x ≠ 0) {W w' : World} {e : Ending} (he : e = .returned (.tuple #[.slice none 0 0, .int .i64 (vchk x)])) (hb : Below W.heap.size W w') : VTxt x W e w' :=
  ⟨_, _, _, he, hb, fun w2 h2 => by rw [vsx, if_neg hc]; exact vstr_nil w2⟩
theorem vbytes_txt (x : VP) (hx : x.ty) (W : World) : Calls Try.prog 11 #[.agg x.cs] W (VTxt x W) := by
  by_cases hc : vchk x = 0
  · exact (vbytes_yes x hx hc W).mono fun _ _ h => venc_txt hc h
  · exact (vbytes_no x hx hc W).mono fun _ _ h => vno_txt hc h.1 h.2
theorem rbytes8_txt (x : VP) (hx : x.ty) (W : World) : Calls Try.prog 16 #[.agg x.cs] W (VTxt x W) := by
  by_cases hc : vchk x = 0
  · exact (rbytes8_yes x hx hc W).mono fun _ _ h => venc_txt hc h
  · exact (rbytes8_no x hx hc W).mono fun _ _ h => vno_txt hc h.1 h.2
/-- The load of a whole packet, in whatever order. -/
theorem yields_vp {ops : Array Oper} {S : World → Prop} {op : Oper} {a : Act} (hw : Region.wanted op (yielded ops a.tmps) = true) (y : Operand) (ho : op.op = .load 34 y)
    (b : Nat) (hx : a.eval y = .pointer (some ⟨b, 0, none⟩)) (x : VP) (hS : ∀ w, S w → ∃ t, Has w b t x.cs) : YieldsIf Try.prog ops S op (.agg x.cs) a :=
  .inl ⟨hw, fun w hw' => by
    obtain ⟨t, h⟩ := hS w hw'
    unfold execOp
    simp only [ho, hx, Instr.loadAt, Instr.sureAddr, Sem.run_bind, Sem.run_pure, Result.andThen_ok, run_loadVar_row w b t 34 x.cs (0, 0) _ h Try.underlying34 rfl x.fit]⟩

set_option maxHeartbeats 2000000 in
theorem vcalls_big (x : VP) (A : Option Addr) (c : Nat) (bs : List Int) (w : World) (hn : 300 < bs.length) :
    Calls Try.prog 4 #[.agg x.cs, .slice A bs.length c] w fun e w' => e = .returned (.bool true) ∧ Below w.heap.size w w' := by
  obtain ⟨n, hne⟩ : ∃ n, bs.length = n := ⟨_, rfl⟩
  rw [hne] at hn ⊢
  clear hne
  have e1 : (300 : Int) < (n : Int) := by omega
  obtain ⟨W0, hW0⟩ : ∃ W0, w.alloc (.cells x.cs 34) = W0 := ⟨_, rfl⟩
  have HL : Hid (Below w.heap.size w W0) := Lib.hid (hW0 ▸ (Below.refl _ w).alloc (Nat.le_refl _) _)
  go_enter Try.func4, Try.ntmps4
  go_upto_region 1 with fail
  try rw [hW0]
  clear hW0
  go_wp2_with fail
  refine (lives8 _).mono ?_
  rintro e w1 ⟨rfl, hb⟩
  have HL1 := Lib.hid (HL.out.trans (hb.mono HL.out.size))
  clear hb HL
  go_wp2_with fail
  go_ret
  exact ⟨rfl, HL1.out⟩

set_option maxHeartbeats 8000000 in
theorem vcalls_walk (x : VP) (hx : x.ty) (A : Option Addr) (c : Nat) (bs : List Int) (w : World) (hA : Arr w (.slice A bs.length c) bs) (hby : ∀ v ∈ bs, 0 ≤ v ∧ v ≤ 255) (hn : bs.length ≤ 300) :
    Calls Try.prog 4 #[.agg x.cs, .slice A bs.length c] w fun e w' => e = .returned (.bool true) ∧ Below w.heap.size w w' := by
  obtain ⟨sm, hsm⟩ : ∃ sm, fnv bs = sm := ⟨_, rfl⟩
  obtain ⟨pb, hpb⟩ : ∃ pb, ent x.f = pb := ⟨_, rfl⟩
  obtain ⟨n, hne⟩ : ∃ n, bs.length = n := ⟨_, rfl⟩
  have HT1 : Hid (∀ W, Calls Try.prog 11 #[.agg x.cs] W (VTxt x W)) := Lib.hid (vbytes_txt x hx)
  have HT2 : Hid (∀ W, Calls Try.prog 16 #[.agg x.cs] W (VTxt x W)) := Lib.hid (rbytes8_txt x hx)
  have HC1 : Hid (∀ W, Calls Try.prog 14 #[.agg x.cs] W fun e w' => e = .returned (.int .i64 (vchk x)) ∧ Below W.heap.size W w') := Lib.hid (fun W => vcheck_any x hx W)
  have HC2 : Hid (∀ W, Calls Try.prog 17 #[.agg x.cs] W fun e w' => e = .returned (.int .i64 (vchk x)) ∧ Below W.heap.size W w') := Lib.hid (fun W => rcheck8 x hx W)
  have HS1 : Hid (∀ W, Below w.heap.size w W → Calls Try.prog 15 #[.slice A n c] W fun e w' => e = .returned (.int .u32 sm) ∧ W = w') := Lib.hid (fun W hb => hsm ▸ hne ▸ hash_arr _ bs W (hA.below hb) (by omega) hby)
  have HS2 : Hid (∀ W, Below w.heap.size w W → Calls Try.prog 18 #[.slice A n c] W fun e w' => e = .returned (.int .u32 sm) ∧ W = w') := Lib.hid (fun W hb => hsm ▸ hne ▸ rhash_arr _ bs W (hA.below hb) (by omega) hby)
  have HP1 : Hid (∀ W, Calls Try.prog 19 #[.agg x.f.cs.toList.toArray] W fun e w' => e = .returned (.int .i64 pb) ∧ Below W.heap.size W w') := Lib.hid (fun W => hpb ▸ entropy_any x.f hx.f W)
  have HP2 : Hid (∀ W, Calls Try.prog 20 #[.agg x.f.cs.toList.toArray] W fun e w' => e = .returned (.int .i64 pb) ∧ Below W.heap.size W w') := Lib.hid (fun W => hpb ▸ rentropy_any x.f hx.f W)
  rw [hne] at hn ⊢
  clear hsm hpb hx hA hby hne
  have e1 : ¬ ((300 : Int) < (n : Int)) := by omega
  obtain ⟨W0, hW0⟩ : ∃ W0, w.alloc (.cells x.cs 34) = W0 := ⟨_, rfl⟩
  have HL : Hid (Below w.heap.size w W0) := Lib.hid (hW0 ▸ (Below.refl _ w).alloc (Nat.le_refl _) _)
  have HX : Hid (Has W0 w.heap.size 34 x.cs) := Lib.hid (hW0 ▸ Has.new _ _ _)
  go_enter Try.func4, Try.ntmps4
  go_upto_region 1 with fail
  try rw [hW0]
  clear hW0
  go_upto_region 7 with (first
    | (go_at_call 9; refine (lives8 _).mono ?_; rintro e w1 ⟨rfl, hb⟩; have HX1 := Lib.hid (HX.out.below hb); have HL1 := Lib.hid (HL.out.trans (hb.mono HL.out.size)); clear hb HX HL)
    | (refine wpList_load_row rfl 34 (.tmp 2) rfl w.heap.size rfl 34 x.cs (0, 0) _ HX3.out Try.underlying34 rfl x.fit ?_)
    | (refine wpList_load_row rfl 34 (.tmp 2) rfl w.heap.size rfl 34 x.cs (0, 0) _ HX1.out Try.underlying34 rfl x.fit ?_)
    | (go_at_call 11; refine (HT1.out _).mono ?_; rintro e w3 ⟨A3, n3, c3, rfl, hb, hs⟩; have HX3 := Lib.hid (HX1.out.below hb); have HL3 := Lib.hid (HL1.out.trans (hb.mono HL1.out.size)); have HY3 := Lib.hid hs; clear hb hs HX1 HL1)
    | (go_at_call 16; refine (HT2.out _).mono ?_; rintro e w4 ⟨A4, n4, c4, rfl, hb, hs⟩; have HX4 := Lib.hid (HX3.out.below hb); have HL4 := Lib.hid (HL3.out.trans (hb.mono HL3.out.size)); have HT3 : Hid (∀ w2, Below w4.heap.size w4 w2 → (convert 40 9 (.slice A3 n3 c3)).run Try.prog w2 = .ok (.string (vsx x)) w2) := Lib.hid (fun w2 h2 => HY3.out w2 (hb.trans (h2.mono hb.size))); have HT4 := Lib.hid hs; clear hb hs HX3 HL3 HY3))
  generalize vsx x = sa at *
  generalize vchk x = ca at *
  refine wp_region_held_drew (S := (fun w' => Below w4.heap.size w4 w')) (by kernel_rfl) (Below.refl _ _).drew (fun hHeld => ?_)
  refine wpAnyH_take (i := 0) (oi := { dst := some 24, op := Go.Op.move (Go.Operand.tmp 5), type := 40, pos := "law.go:66", after := #[], guard := none }) (v := ?_) rfl (by kernel_rfl) (by kernel_rfl) (by kernel_rfl) (fun _ _ _ h => h) (Or.inl ⟨by rfl, ?_⟩) (by assumption) ?_
  rotate_left
  · intro wS hSw
    clear hSw
    go_simp
    try with_reducible rfl
  try simp only [Act.put, List.setIfInBounds_toArray, List.set_cons_zero, List.set_cons_succ]
  refine wpAnyH_take (i := 1) (oi := { dst := some 25, op := Go.Op.convert 40 9 (Go.Operand.tmp 24), type := 9, pos := "law.go:66", after := #[{ on := 0, ground := Go.Ground.data }], guard := none }) (v := ?_) rfl (by kernel_rfl) (by kernel_rfl) (by kernel_rfl) (fun _ _ _ h => h) (Or.inl ⟨by rfl, ?_⟩) (by assumption) ?_
  rotate_left
  · intro wS hSw
    have hc := HT3.out wS hSw
    clear hSw
    go_simp
    try with_reducible rfl
  try simp only [Act.put, List.setIfInBounds_toArray, List.set_cons_zero, List.set_cons_succ]
  refine wpAnyH_take (i := 2) (oi := { dst := some 26, op := Go.Op.move (Go.Operand.tmp 7), type := 40, pos := "law.go:66", after := #[], guard := none }) (v := ?_) rfl (by kernel_rfl) (by kernel_rfl) (by kernel_rfl) (fun _ _ _ h => h) (Or.inl ⟨by rfl, ?_⟩) (by assumption) ?_
  rotate_left
  · intro wS hSw
    clear hSw
    go_simp
    try with_reducible rfl
  try simp only [Act.put, List.setIfInBounds_toArray, List.set_cons_zero, List.set_cons_succ]
  refine wpAnyH_take (i := 3) (oi := { dst := some 27, op := Go.Op.convert 40 9 (Go.Operand.tmp 26), type := 9, pos := "law.go:66", after := #[{ on := 2, ground := Go.Ground.data }], guard := none }) (v := ?_) rfl (by kernel_rfl) (by kernel_rfl) (by kernel_rfl) (fun _ _ _ h => h) (Or.inl ⟨by rfl, ?_⟩) (by assumption) ?_
  rotate_left
  · intro wS hSw
    have hc := HT4.out wS hSw
    clear hSw
    go_simp
    try with_reducible rfl
  try simp only [Act.put, List.setIfInBounds_toArray, List.set_cons_zero, List.set_cons_succ]
  refine wpAnyH_take (i := 4) (oi := { dst := some 28, op := Go.Op.binOp Go.BinOp.eql 9 (Go.Operand.tmp 25) (Go.Operand.tmp 27) 9, type := 4, pos := "law.go:66", after := #[{ on := 1, ground := Go.Ground.data }, { on := 3, ground := Go.Ground.data }], guard := none }) (v := ?_) rfl (by kernel_rfl) (by kernel_rfl) (by kernel_rfl) (fun _ _ _ h => h) (Or.inl ⟨by rfl, ?_⟩) (by assumption) ?_
  rotate_left
  · intro wS hSw
    clear hSw
    go_simp
    try with_reducible rfl
  try simp only [Act.put, List.setIfInBounds_toArray, List.set_cons_zero, List.set_cons_succ]
  refine wpAnyH_take (i := 5) (oi := { dst := some 29, op := Go.Op.move (Go.Operand.tmp 28), type := 4, pos := "law.go:66", after := #[{ on := 4, ground := Go.Ground.data }], guard := none }) (v := ?_) rfl (by kernel_rfl) (by kernel_rfl) (by kernel_rfl) (fun _ _ _ h => h) (Or.inl ⟨by rfl, ?_⟩) (by assumption) ?_
  rotate_left
  · intro wS hSw
    clear hSw
    go_simp
    try with_reducible rfl
  try simp only [Act.put, List.setIfInBounds_toArray, List.set_cons_zero, List.set_cons_succ]
  refine wpAnyH_take (i := 6) (oi := { dst := some 30, op := Go.Op.move (Go.Operand.tmp 6), type := 35, pos := "law.go:66", after := #[{ on := 5, ground := Go.Ground.guard }], guard := some (5, true) }) (v := ?_) rfl (by kernel_rfl) (by kernel_rfl) (by kernel_rfl) (fun _ _ _ h => h) (Or.inl ⟨by rfl, ?_⟩) (by assumption) ?_
  rotate_left
  · intro wS hSw
    clear hSw
    go_simp
    try with_reducible rfl
  try simp only [Act.put, List.setIfInBounds_toArray, List.set_cons_zero, List.set_cons_succ]
  refine wpAnyH_take (i := 7) (oi := { dst := some 31, op := Go.Op.move (Go.Operand.tmp 8), type := 35, pos := "law.go:66", after := #[{ on := 5, ground := Go.Ground.guard }], guard := some (5, true) }) (v := ?_) rfl (by kernel_rfl) (by kernel_rfl) (by kernel_rfl) (fun _ _ _ h => h) (Or.inl ⟨by rfl, ?_⟩) (by assumption) ?_
  rotate_left
  · intro wS hSw
    clear hSw
    go_simp
    try with_reducible rfl
  try simp only [Act.put, List.setIfInBounds_toArray, List.set_cons_zero, List.set_cons_succ]
  refine wpAnyH_take (i := 8) (oi := { dst := some 32, op := Go.Op.binOp Go.BinOp.eql 35 (Go.Operand.tmp 30) (Go.Operand.tmp 31) 35, type := 4, pos := "law.go:66", after := #[{ on := 6, ground := Go.Ground.data }, { on := 7, ground := Go.Ground.data }, { on := 5, ground := Go.Ground.guard }], guard := some (5, true) }) (v := ?_) rfl (by kernel_rfl) (by kernel_rfl) (by kernel_rfl) (fun _ _ _ h => h) (Or.inl ⟨by rfl, ?_⟩) (by assumption) ?_
  rotate_left
  · intro wS hSw
    clear hSw
    go_simp
    try with_reducible rfl
  try simp only [Act.put, List.setIfInBounds_toArray, List.set_cons_zero, List.set_cons_succ]
  refine wpAnyH_take (i := 9) (oi := { dst := some 33, op := Go.Op.pick (Go.Operand.tmp 29) (Go.Operand.tmp 32) (Go.Operand.const (Go.Value.bool false)), type := 4, pos := "law.go:66", after := #[{ on := 5, ground := Go.Ground.data }, { on := 8, ground := Go.Ground.data }], guard := none }) (v := ?_) rfl (by kernel_rfl) (by kernel_rfl) (by kernel_rfl) (fun _ _ _ h => h) (Or.inl ⟨by rfl, ?_⟩) (by assumption) ?_
  rotate_left
  · intro wS hSw
    clear hSw
    go_simp
    try with_reducible rfl
  try simp only [Act.put, List.setIfInBounds_toArray, List.set_cons_zero, List.set_cons_succ]
  refine wpAnyH_take (i := 10) (oi := { dst := some 34, op := Go.Op.move (Go.Operand.tmp 33), type := 4, pos := "law.go:66", after := #[{ on := 9, ground := Go.Ground.data }, { on := 5, ground := Go.Ground.chain }], guard := none }) (v := ?_) rfl (by kernel_rfl) (by kernel_rfl) (by kernel_rfl) (fun _ _ _ h => h) (Or.inl ⟨by rfl, ?_⟩) (by assumption) ?_
  rotate_left
  · intro wS hSw
    clear hSw
    go_simp
    try with_reducible rfl
  try simp only [Act.put, List.setIfInBounds_toArray, List.set_cons_zero, List.set_cons_succ]
  refine wpAnyH_take (i := 11) (oi := { dst := some 35, op := Go.Op.load 34 (Go.Operand.tmp 2), type := 34, pos := "law.go:66", after := #[{ on := 10, ground := Go.Ground.guard }], guard := some (10, true) }) (v := .agg x.cs) rfl (by kernel_rfl) (by kernel_rfl) (by kernel_rfl) (fun _ _ _ h => h) (yields_vp (by rfl) (.tmp 2) rfl w.heap.size rfl x (fun _ h => ⟨_, HX4.out.below h⟩)) (by assumption) ?_
  try simp only [Act.put, List.setIfInBounds_toArray, List.set_cons_zero, List.set_cons_succ]
  refine wpAnyH_take (i := 13) (oi := { dst := some 37, op := Go.Op.load 34 (Go.Operand.tmp 2), type := 34, pos := "law.go:66", after := #[{ on := 10, ground := Go.Ground.guard }], guard := some (10, true) }) (v := .agg x.cs) rfl (by kernel_rfl) (by kernel_rfl) (by kernel_rfl) (fun _ _ _ h => h) (yields_vp (by rfl) (.tmp 2) rfl w.heap.size rfl x (fun _ h => ⟨_, HX4.out.below h⟩)) (by assumption) ?_
  try simp only [Act.put, List.setIfInBounds_toArray, List.set_cons_zero, List.set_cons_succ]
  refine wpAnyH_ready (rs := [12]) (by kernel_rfl) (by simp) ?_
  refine AllReadyH.cons (o := { dst := some 36, op := Go.Op.call { callee := Go.Callee.value (Go.Operand.func 14), args := #[Go.Operand.tmp 35], argTypes := #[34] }, type := 35, pos := "law.go:66", after := #[{ on := 11, ground := Go.Ground.data }, { on := 10, ground := Go.Ground.chain }, { on := 10, ground := Go.Ground.guard }], guard := some (10, true) }) rfl (fun K hK => ?_) AllReadyH.nil
  go_simp
  go_at_call 14
  refine (HC1.out _).mono ?_
  rintro e wn ⟨rfl, hb⟩
  refine hK.out _ _ ?_ (fun hHeld => ?_)
  · exact hHeld.trans (hb.mono hHeld.size)
  clear hK K
  try simp only [Act.put, List.setIfInBounds_toArray, List.set_cons_zero, List.set_cons_succ]
  refine wpAnyH_ready (rs := [14]) (by kernel_rfl) (by simp) ?_
  refine AllReadyH.cons (o := { dst := some 38, op := Go.Op.call { callee := Go.Callee.value (Go.Operand.func 17), args := #[Go.Operand.tmp 37], argTypes := #[34] }, type := 35, pos := "law.go:66", after := #[{ on := 13, ground := Go.Ground.data }, { on := 12, ground := Go.Ground.chain }, { on := 10, ground := Go.Ground.guard }], guard := some (10, true) }) rfl (fun K hK => ?_) AllReadyH.nil
  go_simp
  go_at_call 17
  refine (HC2.out _).mono ?_
  rintro e wn ⟨rfl, hb⟩
  refine hK.out _ _ ?_ (fun hHeld => ?_)
  · exact hHeld.trans (hb.mono hHeld.size)
  clear hK K
  try simp only [Act.put, List.setIfInBounds_toArray, List.set_cons_zero, List.set_cons_succ]
  refine wpAnyH_take (i := 15) (oi := { dst := some 39, op := Go.Op.binOp Go.BinOp.eql 35 (Go.Operand.tmp 36) (Go.Operand.tmp 38) 35, type := 4, pos := "law.go:66", after := #[{ on := 12, ground := Go.Ground.data }, { on := 14, ground := Go.Ground.data }, { on := 10, ground := Go.Ground.guard }], guard := some (10, true) }) (v := ?_) rfl (by kernel_rfl) (by kernel_rfl) (by kernel_rfl) (fun _ _ _ h => h) (Or.inl ⟨by rfl, ?_⟩) (by assumption) ?_
  rotate_left
  · intro wS hSw
    clear hSw
    go_simp
    try with_reducible rfl
  try simp only [Act.put, List.setIfInBounds_toArray, List.set_cons_zero, List.set_cons_succ]
  refine wpAnyH_take (i := 16) (oi := { dst := some 40, op := Go.Op.pick (Go.Operand.tmp 34) (Go.Operand.tmp 39) (Go.Operand.const (Go.Value.bool false)), type := 4, pos := "law.go:66", after := #[{ on := 10, ground := Go.Ground.data }, { on := 15, ground := Go.Ground.data }], guard := none }) (v := ?_) rfl (by kernel_rfl) (by kernel_rfl) (by kernel_rfl) (fun _ _ _ h => h) (Or.inl ⟨by rfl, ?_⟩) (by assumption) ?_
  rotate_left
  · intro wS hSw
    clear hSw
    go_simp
    try with_reducible rfl
  try simp only [Act.put, List.setIfInBounds_toArray, List.set_cons_zero, List.set_cons_succ]
  refine wpAnyH_take (i := 17) (oi := { dst := some 41, op := Go.Op.move (Go.Operand.tmp 40), type := 4, pos := "law.go:66", after := #[{ on := 16, ground := Go.Ground.data }, { on := 14, ground := Go.Ground.chain }], guard := none }) (v := ?_) rfl (by kernel_rfl) (by kernel_rfl) (by kernel_rfl) (fun _ _ _ h => h) (Or.inl ⟨by rfl, ?_⟩) (by assumption) ?_
  rotate_left
  · intro wS hSw
    clear hSw
    go_simp
    try with_reducible rfl
  try simp only [Act.put, List.setIfInBounds_toArray, List.set_cons_zero, List.set_cons_succ]
  refine wpAnyH_take (i := 18) (oi := { dst := some 42, op := Go.Op.move (Go.Operand.tmp 1), type := 40, pos := "law.go:66", after := #[{ on := 17, ground := Go.Ground.guard }], guard := some (17, true) }) (v := ?_) rfl (by kernel_rfl) (by kernel_rfl) (by kernel_rfl) (fun _ _ _ h => h) (Or.inl ⟨by rfl, ?_⟩) (by assumption) ?_
  rotate_left
  · intro wS hSw
    clear hSw
    go_simp
    try with_reducible rfl
  try simp only [Act.put, List.setIfInBounds_toArray, List.set_cons_zero, List.set_cons_succ]
  refine wpAnyH_take (i := 20) (oi := { dst := some 44, op := Go.Op.move (Go.Operand.tmp 1), type := 40, pos := "law.go:66", after := #[{ on := 17, ground := Go.Ground.guard }], guard := some (17, true) }) (v := ?_) rfl (by kernel_rfl) (by kernel_rfl) (by kernel_rfl) (fun _ _ _ h => h) (Or.inl ⟨by rfl, ?_⟩) (by assumption) ?_
  rotate_left
  · intro wS hSw
    clear hSw
    go_simp
    try with_reducible rfl
  try simp only [Act.put, List.setIfInBounds_toArray, List.set_cons_zero, List.set_cons_succ]
  refine wpAnyH_ready (rs := [19]) (by kernel_rfl) (by simp) ?_
  refine AllReadyH.cons (o := { dst := some 43, op := Go.Op.call { callee := Go.Callee.value (Go.Operand.func 15), args := #[Go.Operand.tmp 42], argTypes := #[40] }, type := 23, pos := "law.go:66", after := #[{ on := 18, ground := Go.Ground.data }, { on := 17, ground := Go.Ground.chain }, { on := 17, ground := Go.Ground.guard }], guard := some (17, true) }) rfl (fun K hK => ?_) AllReadyH.nil
  go_simp
  go_at_call 15
  refine (HS1.out _ (HL4.out.trans (hHeld.mono HL4.out.size))).mono ?_
  rintro e wn ⟨rfl, rfl⟩
  refine hK.out _ _ ?_ (fun hHeld => ?_)
  · exact hHeld
  clear hK K
  try simp only [Act.put, List.setIfInBounds_toArray, List.set_cons_zero, List.set_cons_succ]
  refine wpAnyH_ready (rs := [21]) (by kernel_rfl) (by simp) ?_
  refine AllReadyH.cons (o := { dst := some 45, op := Go.Op.call { callee := Go.Callee.value (Go.Operand.func 18), args := #[Go.Operand.tmp 44], argTypes := #[40] }, type := 23, pos := "law.go:66", after := #[{ on := 20, ground := Go.Ground.data }, { on := 19, ground := Go.Ground.chain }, { on := 17, ground := Go.Ground.guard }], guard := some (17, true) }) rfl (fun K hK => ?_) AllReadyH.nil
  go_simp
  go_at_call 18
  refine (HS2.out _ (HL4.out.trans (hHeld.mono HL4.out.size))).mono ?_
  rintro e wn ⟨rfl, rfl⟩
  refine hK.out _ _ ?_ (fun hHeld => ?_)
  · exact hHeld
  clear hK K
  try simp only [Act.put, List.setIfInBounds_toArray, List.set_cons_zero, List.set_cons_succ]
  refine wpAnyH_take (i := 22) (oi := { dst := some 46, op := Go.Op.binOp Go.BinOp.eql 23 (Go.Operand.tmp 43) (Go.Operand.tmp 45) 23, type := 4, pos := "law.go:66", after := #[{ on := 19, ground := Go.Ground.data }, { on := 21, ground := Go.Ground.data }, { on := 17, ground := Go.Ground.guard }], guard := some (17, true) }) (v := ?_) rfl (by kernel_rfl) (by kernel_rfl) (by kernel_rfl) (fun _ _ _ h => h) (Or.inl ⟨by rfl, ?_⟩) (by assumption) ?_
  rotate_left
  · intro wS hSw
    clear hSw
    go_simp
    try with_reducible rfl
  try simp only [Act.put, List.setIfInBounds_toArray, List.set_cons_zero, List.set_cons_succ]
  refine wpAnyH_take (i := 23) (oi := { dst := some 47, op := Go.Op.pick (Go.Operand.tmp 41) (Go.Operand.tmp 46) (Go.Operand.const (Go.Value.bool false)), type := 4, pos := "law.go:66", after := #[{ on := 17, ground := Go.Ground.data }, { on := 22, ground := Go.Ground.data }], guard := none }) (v := ?_) rfl (by kernel_rfl) (by kernel_rfl) (by kernel_rfl) (fun _ _ _ h => h) (Or.inl ⟨by rfl, ?_⟩) (by assumption) ?_
  rotate_left
  · intro wS hSw
    clear hSw
    go_simp
    try with_reducible rfl
  try simp only [Act.put, List.setIfInBounds_toArray, List.set_cons_zero, List.set_cons_succ]
  refine wpAnyH_take (i := 24) (oi := { dst := some 48, op := Go.Op.move (Go.Operand.tmp 47), type := 4, pos := "law.go:66", after := #[{ on := 23, ground := Go.Ground.data }, { on := 21, ground := Go.Ground.chain }], guard := none }) (v := ?_) rfl (by kernel_rfl) (by kernel_rfl) (by kernel_rfl) (fun _ _ _ h => h) (Or.inl ⟨by rfl, ?_⟩) (by assumption) ?_
  rotate_left
  · intro wS hSw
    clear hSw
    go_simp
    try with_reducible rfl
  try simp only [Act.put, List.setIfInBounds_toArray, List.set_cons_zero, List.set_cons_succ]
  refine wpAnyH_take (i := 25) (oi := { dst := some 49, op := Go.Op.fieldAddr 34 (Go.Operand.tmp 2) 6, type := 0, pos := "law.go:66", after := #[{ on := 24, ground := Go.Ground.guard }], guard := some (24, true) }) (v := ?_) rfl (by kernel_rfl) (by kernel_rfl) (by kernel_rfl) (fun _ _ _ h => h) (Or.inl ⟨by rfl, ?_⟩) (by assumption) ?_
  rotate_left
  · intro wS hSw
    clear hSw
    go_simp
    try with_reducible rfl
  try simp only [Act.put, List.setIfInBounds_toArray, List.set_cons_zero, List.set_cons_succ]
  refine wpAnyH_take (i := 28) (oi := { dst := some 52, op := Go.Op.fieldAddr 34 (Go.Operand.tmp 2) 6, type := 0, pos := "law.go:66", after := #[{ on := 24, ground := Go.Ground.guard }], guard := some (24, true) }) (v := ?_) rfl (by kernel_rfl) (by kernel_rfl) (by kernel_rfl) (fun _ _ _ h => h) (Or.inl ⟨by rfl, ?_⟩) (by assumption) ?_
  rotate_left
  · intro wS hSw
    clear hSw
    go_simp
    try with_reducible rfl
  try simp only [Act.put, List.setIfInBounds_toArray, List.set_cons_zero, List.set_cons_succ]
  refine wpAnyH_take (i := 26) (oi := { dst := some 50, op := Go.Op.load 32 (Go.Operand.tmp 49), type := 32, pos := "law.go:66", after := #[{ on := 25, ground := Go.Ground.data }, { on := 24, ground := Go.Ground.guard }], guard := some (24, true) }) (v := .agg x.f.cs.toList.toArray) rfl (by kernel_rfl) (by kernel_rfl) (by kernel_rfl) (fun _ _ _ h => h) (yieldsIf_load_mid (by rfl) 32 (.tmp 49) rfl w.heap.size 6 rfl x.f.cs.toList _ (fun _ h => (HX4.out.below h).inner) Try.underlying32 rfl (fr_fit_t x.f)) (by assumption) ?_
  try simp only [Act.put, List.setIfInBounds_toArray, List.set_cons_zero, List.set_cons_succ]
  refine wpAnyH_take (i := 29) (oi := { dst := some 53, op := Go.Op.load 32 (Go.Operand.tmp 52), type := 32, pos := "law.go:66", after := #[{ on := 28, ground := Go.Ground.data }, { on := 24, ground := Go.Ground.guard }], guard := some (24, true) }) (v := .agg x.f.cs.toList.toArray) rfl (by kernel_rfl) (by kernel_rfl) (by kernel_rfl) (fun _ _ _ h => h) (yieldsIf_load_mid (by rfl) 32 (.tmp 52) rfl w.heap.size 6 rfl x.f.cs.toList _ (fun _ h => (HX4.out.below h).inner) Try.underlying32 rfl (fr_fit_t x.f)) (by assumption) ?_
  try simp only [Act.put, List.setIfInBounds_toArray, List.set_cons_zero, List.set_cons_succ]
  refine wpAnyH_ready (rs := [27]) (by kernel_rfl) (by simp) ?_
  refine AllReadyH.cons (o := { dst := some 51, op := Go.Op.call { callee := Go.Callee.value (Go.Operand.func 19), args := #[Go.Operand.tmp 50], argTypes := #[32] }, type := 3, pos := "law.go:66", after := #[{ on := 26, ground := Go.Ground.data }, { on := 24, ground := Go.Ground.chain }, { on := 24, ground := Go.Ground.guard }], guard := some (24, true) }) rfl (fun K hK => ?_) AllReadyH.nil
  go_simp
  go_at_call 19
  refine (HP1.out _).mono ?_
  rintro e wn ⟨rfl, hb⟩
  refine hK.out _ _ ?_ (fun hHeld => ?_)
  · exact hHeld.trans (hb.mono hHeld.size)
  clear hK K
  try simp only [Act.put, List.setIfInBounds_toArray, List.set_cons_zero, List.set_cons_succ]
  refine wpAnyH_ready (rs := [30]) (by kernel_rfl) (by simp) ?_
  refine AllReadyH.cons (o := { dst := some 54, op := Go.Op.call { callee := Go.Callee.value (Go.Operand.func 20), args := #[Go.Operand.tmp 53], argTypes := #[32] }, type := 3, pos := "law.go:66", after := #[{ on := 29, ground := Go.Ground.data }, { on := 27, ground := Go.Ground.chain }, { on := 24, ground := Go.Ground.guard }], guard := some (24, true) }) rfl (fun K hK => ?_) AllReadyH.nil
  go_simp
  go_at_call 20
  refine (HP2.out _).mono ?_
  rintro e wn ⟨rfl, hb⟩
  refine hK.out _ _ ?_ (fun hHeld => ?_)
  · exact hHeld.trans (hb.mono hHeld.size)
  clear hK K
  try simp only [Act.put, List.setIfInBounds_toArray, List.set_cons_zero, List.set_cons_succ]
  refine wpAnyH_take (i := 31) (oi := { dst := some 55, op := Go.Op.binOp Go.BinOp.eql 3 (Go.Operand.tmp 51) (Go.Operand.tmp 54) 3, type := 4, pos := "law.go:66", after := #[{ on := 27, ground := Go.Ground.data }, { on := 30, ground := Go.Ground.data }, { on := 24, ground := Go.Ground.guard }], guard := some (24, true) }) (v := ?_) rfl (by kernel_rfl) (by kernel_rfl) (by kernel_rfl) (fun _ _ _ h => h) (Or.inl ⟨by rfl, ?_⟩) (by assumption) ?_
  rotate_left
  · intro wS hSw
    clear hSw
    go_simp
    try with_reducible rfl
  try simp only [Act.put, List.setIfInBounds_toArray, List.set_cons_zero, List.set_cons_succ]
  refine wpAnyH_take (i := 32) (oi := { dst := some 56, op := Go.Op.pick (Go.Operand.tmp 48) (Go.Operand.tmp 55) (Go.Operand.const (Go.Value.bool false)), type := 4, pos := "law.go:66", after := #[{ on := 24, ground := Go.Ground.data }, { on := 31, ground := Go.Ground.data }], guard := none }) (v := ?_) rfl (by kernel_rfl) (by kernel_rfl) (by kernel_rfl) (fun _ _ _ h => h) (Or.inl ⟨by rfl, ?_⟩) (by assumption) ?_
  rotate_left
  · intro wS hSw
    clear hSw
    go_simp
    try with_reducible rfl
  try simp only [Act.put, List.setIfInBounds_toArray, List.set_cons_zero, List.set_cons_succ]
  refine wpAnyH_take (i := 33) (oi := { dst := some 4, op := Go.Op.assign (Go.Operand.tmp 56), type := 4, pos := "law.go:66", after := #[{ on := 32, ground := Go.Ground.data }, { on := 30, ground := Go.Ground.chain }, { on := 0, ground := Go.Ground.phase }, { on := 1, ground := Go.Ground.phase }, { on := 2, ground := Go.Ground.phase }, { on := 3, ground := Go.Ground.phase }, { on := 4, ground := Go.Ground.phase }, { on := 5, ground := Go.Ground.phase }, { on := 6, ground := Go.Ground.phase }, { on := 7, ground := Go.Ground.phase }, { on := 8, ground := Go.Ground.phase }, { on := 9, ground := Go.Ground.phase }, { on := 10, ground := Go.Ground.phase }, { on := 11, ground := Go.Ground.phase }, { on := 12, ground := Go.Ground.phase }, { on := 13, ground := Go.Ground.phase }, { on := 14, ground := Go.Ground.phase }, { on := 15, ground := Go.Ground.phase }, { on := 16, ground := Go.Ground.phase }, { on := 17, ground := Go.Ground.phase }, { on := 18, ground := Go.Ground.phase }, { on := 19, ground := Go.Ground.phase }, { on := 20, ground := Go.Ground.phase }, { on := 21, ground := Go.Ground.phase }, { on := 22, ground := Go.Ground.phase }, { on := 23, ground := Go.Ground.phase }, { on := 24, ground := Go.Ground.phase }, { on := 25, ground := Go.Ground.phase }, { on := 26, ground := Go.Ground.phase }, { on := 27, ground := Go.Ground.phase }, { on := 28, ground := Go.Ground.phase }, { on := 29, ground := Go.Ground.phase }, { on := 30, ground := Go.Ground.phase }, { on := 31, ground := Go.Ground.phase }, { on := 32, ground := Go.Ground.phase }], guard := none }) (v := ?_) rfl (by kernel_rfl) (by kernel_rfl) (by kernel_rfl) (fun _ _ _ h => h) (Or.inl ⟨by rfl, ?_⟩) (by assumption) ?_
  rotate_left
  · intro wS hSw
    clear hSw
    go_simp
    try with_reducible rfl
  try simp only [Act.put, List.setIfInBounds_toArray, List.set_cons_zero, List.set_cons_succ]
  refine wpAnyH_done (by kernel_rfl) ?_ _
  go_wp2_with fail
  go_ret
  exact ⟨rfl, HL4.out.trans (hHeld.mono HL4.out.size)⟩
theorem vcalls_any (x : VP) (hx : x.ty) (A : Option Addr) (c : Nat) (bs : List Int) (w : World) (hA : Arr w (.slice A bs.length c) bs) (hby : ∀ v ∈ bs, 0 ≤ v ∧ v ≤ 255) :
    Calls Try.prog 4 #[.agg x.cs, .slice A bs.length c] w fun e w' => e = .returned (.bool true) ∧ Below w.heap.size w w' := by
  by_cases hn : 300 < bs.length
  · exact vcalls_big x A c bs w hn
  · exact vcalls_walk x hx A c bs w hA hby (by omega)
end Go.Proofs.Ytgdfpmnbofnjfaa
