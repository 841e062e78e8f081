/- WireReads: the document's own reader: Bytes, none. -/
import Derived.Test.YtlmgbnpimmjijabRfF
import Derived.Lib.AppendZeros
namespace Go.Proofs.Ytlmgbnpimmjijab
open Go.RowKit
set_option linter.unusedVariables false
set_option maxRecDepth 100000

/-- append of no bytes to an empty slice. -/
theorem run_append_empty (w : World) (ad ad' : Addr) (c c' : Nat) (ty : TypeId) :
    (Builtin.append_ #[34, 34] ty #[.slice (some ad) 0 c, .slice (some ad') 0 c']).run Try.prog w = .ok (.slice (some ad) 0 c) w := by
  obtain ⟨i0, hi, hz0, hz1, hz2⟩ := info_parts info_u8
  simp [Builtin.append_, run_underlying Try.underlying34, sizeOf, typeInfo, hi, Builtin.lenOf, Builtin.firstCells, loadCells, loadCellsFrom, storeCells]

theorem step_append_run {P : Program} {ops : Array Oper} {o : Oper} {a : Act} (w : World) {K : Act → World → Prop} {Q : Exit → Act → World → Prop} {E : Prop} (hgd : o.guard = none) (s x : Operand) (t tn : TypeId)
    (ho : o.op = .call { callee := .builtin .append, args := #[s, x], argTypes := #[t, tn] }) (vs vx : Value) (hs : a.eval s = vs) (hx : a.eval x = vx)
    (v' : Value) (w' : World) (hr : (Builtin.append_ #[t, tn] o.type #[vs, vx]).run P w = .ok v' w') (h : K (a.put o.dst v') w') : if Region.wanted o (yielded ops a.tmps) = true then Oper.wp P o a w K Q else E := by
  have hw : Region.wanted o (yielded ops a.tmps) = true := by simp [Region.wanted, hgd]
  rw [if_pos hw]
  exact Lib.wp_append_run w s x t tn ho vs vx hs hx v' w' hr h

theorem fbytes_0 (o h cap : Nat) (xs : List Int) (p en : Nat) (w : World) (H : Rf w o h cap xs p en 0 0) (hlt : p < cap) :
    Calls Try.prog 42 #[.pointer (some ⟨o, 0, none⟩), .int .i64 0] w fun e w' => (∃ v, e = .returned v ∧ Got w' w.heap.size v []) ∧ Rf w' o h cap xs p en 0 0 ∧ Only w o w' := by
  have l1 := H.lo
  have l2 := H.hi
  have l3 := H.small
  have hcap : xs.length ≤ cap ∧ cap ≤ maxLen := by
    obtain ⟨_, _, _, _, h1, h2⟩ := H.row
    exact ⟨h1, h2⟩
  unfold maxLen at hcap
  obtain ⟨hcap1, hcap2⟩ := hcap
  go_enter Try.func42, Try.ntmps42
  go_wp2_with fail
  refine (fhas_d o h cap xs p en 0 _ H 0 (by omega) (by omega)).mono ?_
  rintro e w' ⟨rfl, k, rfl⟩
  have H1 := H.drewN k
  have c1 := H1.c1
  have f1 := H1.blk.free 1
  have HO1 : Hid (Only w o (w.drewN k)) := Lib.hid (only_drewN (only_refl w o) k)
  have HH := Lib.hid H1
  clear H H1
  generalize w.drewN k = w1 at *
  go_upto_region 4 with fail
  have ho1 : Only w1 o (w1.setCell ⟨o, 1, none⟩ (.int .i64 (p : Int))) := only_setN (only_refl w1 o) 1 _
  have hb1 := HH.out.blk.set_ 1 (.int .i64 (p : Int))
  have hr1 : Rf (w1.setCell ⟨o, 1, none⟩ (.int .i64 (p : Int))) o h cap xs p en 0 0 := HH.out.moved ho1 (by simpa using hb1) l1 l2
  have HO2 : Hid (Only w o (w1.setCell ⟨o, 1, none⟩ (.int .i64 (p : Int)))) := Lib.hid (only_trans HO1.out ho1)
  have HF : Hid (FH (w1.setCell ⟨o, 1, none⟩ (.int .i64 (p : Int))) o h cap xs p en 0 0 (w1.setCell ⟨o, 1, none⟩ (.int .i64 (p : Int)))) := Lib.hid ⟨hr1, Below.refl _ _⟩
  clear ho1 hb1 hr1 c1 f1 HO1 HH
  generalize w1.setCell ⟨o, 1, none⟩ (.int .i64 (p : Int)) = w2 at *
  have ha := HF.out.all
  obtain ⟨c0, c1, c2, c3, c4, _⟩ := ha
  have hw : IntKind.i64.wrap (p : Int) = (p : Int) := IntWalk.i64_in _ (by omega)
  have b0 : (0 : Int) ≤ (p : Int) := by omega
  have b2 : (p : Int) ≤ (cap : Int) := by omega
  have b3 : (cap : Int) - (p : Int) ≠ 0 := by omega
  have b4 : ¬ cap = p := by omega
  have b5 : ¬ p = cap := by omega
  go_region_held3 (fun w' => w'.cell? ⟨o, 0, none⟩ = some (.slice (some ⟨h, 0, none⟩) xs.length cap) ∧ w'.cell? ⟨o, 1, none⟩ = some (.int .i64 (p : Int)) ∧ w'.cell? ⟨o, 2, none⟩ = some (.int .i64 (en : Int)) ∧ w'.cell? ⟨o, 3, none⟩ = some (.int .i64 0) ∧ w'.cell? ⟨o, 4, none⟩ = some (.int .i64 0) ∧ FH w2 o h cap xs p en 0 0 w')
    (first | exact HF.out.drew.all | (go_split_ands; exact (FH.alloc (by assumption) _).all) | (go_split_ands; exact (FH.drewN (by assumption) _).all) | (go_split_ands; exact FH.all (by assumption)))
    (first
      | (refine step_append_run _ rfl _ _ _ _ rfl _ _ rfl rfl _ _ (run_append_empty _ _ _ _ _ _) ?_))
  go_wp2_with fail
  go_ret
  go_split_ands
  have hb0 : Below w2.heap.size w2 (w2.alloc (.cells #[] 5)) := (Below.refl _ w2).alloc (Nat.le_refl _) _
  have hfh : FH w2 o h cap xs p en 0 0 (w2.alloc (.cells #[] 5)).drew := by assumption
  refine ⟨⟨_, rfl, .inr ⟨w2.heap.size, 0, rfl, ⟨#[], Has.new w2 5 #[], rfl, rfl, Nat.le_refl _, by simp⟩, HO2.out.size⟩⟩, hfh.rf, only_trans HO2.out (only_below hfh.bel o)⟩

theorem fbytes_1 (o h : Nat) (xs : List Int) (p en : Nat) (w : World) (H : Rf w o h p xs p en 0 0) :
    Calls Try.prog 42 #[.pointer (some ⟨o, 0, none⟩), .int .i64 0] w fun e w' => (∃ v, e = .returned v ∧ Got w' w.heap.size v []) ∧ Rf w' o h p xs p en 0 0 ∧ Only w o w' := by
  have l1 := H.lo
  have l2 := H.hi
  have l3 := H.small
  have hcap : xs.length ≤ p ∧ p ≤ maxLen := by
    obtain ⟨_, _, _, _, h1, h2⟩ := H.row
    exact ⟨h1, h2⟩
  unfold maxLen at hcap
  obtain ⟨hcap1, hcap2⟩ := hcap
  go_enter Try.func42, Try.ntmps42
  go_wp2_with fail
  refine (fhas_d o h p xs p en 0 _ H 0 (by omega) (by omega)).mono ?_
  rintro e w' ⟨rfl, k, rfl⟩
  have H1 := H.drewN k
  have c1 := H1.c1
  have f1 := H1.blk.free 1
  have HO1 : Hid (Only w o (w.drewN k)) := Lib.hid (only_drewN (only_refl w o) k)
  have HH := Lib.hid H1
  clear H H1
  generalize w.drewN k = w1 at *
  go_upto_region 4 with fail
  have ho1 : Only w1 o (w1.setCell ⟨o, 1, none⟩ (.int .i64 (p : Int))) := only_setN (only_refl w1 o) 1 _
  have hb1 := HH.out.blk.set_ 1 (.int .i64 (p : Int))
  have hr1 : Rf (w1.setCell ⟨o, 1, none⟩ (.int .i64 (p : Int))) o h p xs p en 0 0 := HH.out.moved ho1 (by simpa using hb1) l1 l2
  have HO2 : Hid (Only w o (w1.setCell ⟨o, 1, none⟩ (.int .i64 (p : Int)))) := Lib.hid (only_trans HO1.out ho1)
  have HF : Hid (FH (w1.setCell ⟨o, 1, none⟩ (.int .i64 (p : Int))) o h p xs p en 0 0 (w1.setCell ⟨o, 1, none⟩ (.int .i64 (p : Int)))) := Lib.hid ⟨hr1, Below.refl _ _⟩
  clear ho1 hb1 hr1 c1 f1 HO1 HH
  generalize w1.setCell ⟨o, 1, none⟩ (.int .i64 (p : Int)) = w2 at *
  have ha := HF.out.all
  obtain ⟨c0, c1, c2, c3, c4, _⟩ := ha
  have hw : IntKind.i64.wrap (p : Int) = (p : Int) := IntWalk.i64_in _ (by omega)
  have b0 : (0 : Int) ≤ (p : Int) := by omega
  go_region_held3 (fun w' => w'.cell? ⟨o, 0, none⟩ = some (.slice (some ⟨h, 0, none⟩) xs.length p) ∧ w'.cell? ⟨o, 1, none⟩ = some (.int .i64 (p : Int)) ∧ w'.cell? ⟨o, 2, none⟩ = some (.int .i64 (en : Int)) ∧ w'.cell? ⟨o, 3, none⟩ = some (.int .i64 0) ∧ w'.cell? ⟨o, 4, none⟩ = some (.int .i64 0) ∧ FH w2 o h p xs p en 0 0 w')
    (first | exact HF.out.drew.all | (go_split_ands; exact (FH.alloc (by assumption) _).all) | (go_split_ands; exact (FH.drewN (by assumption) _).all) | (go_split_ands; exact FH.all (by assumption)))
    (first
      | (refine step_append_run _ rfl _ _ _ _ rfl _ _ rfl rfl _ _ (run_append_empty _ _ _ _ _ _) ?_))
  go_wp2_with fail
  go_ret
  go_split_ands
  have hb0 : Below w2.heap.size w2 (w2.alloc (.cells #[] 5)) := (Below.refl _ w2).alloc (Nat.le_refl _) _
  have hfh : FH w2 o h p xs p en 0 0 (w2.alloc (.cells #[] 5)).drew := by assumption
  refine ⟨⟨_, rfl, .inr ⟨w2.heap.size, 0, rfl, ⟨#[], Has.new w2 5 #[], rfl, rfl, Nat.le_refl _, by simp⟩, HO2.out.size⟩⟩, hfh.rf, only_trans HO2.out (only_below hfh.bel o)⟩

end Go.Proofs.Ytlmgbnpimmjijab
