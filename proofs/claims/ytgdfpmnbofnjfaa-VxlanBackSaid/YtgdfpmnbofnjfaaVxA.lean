/- Packets that carry frames: cells, comparing, a packet as an argument; written by gen_vxa.py. -/
import Derived.Test.YtgdfpmnbofnjfaaPkA
namespace Go.Proofs.Ytgdfpmnbofnjfaa
open Go.ChangeShapes Go.WideShapes Go.ChangeAt Go.RowKit
set_option linter.unusedVariables false
set_option linter.unusedSimpArgs false
set_option maxRecDepth 100000

/-- A packet. -/
structure VP where
  a : Int
  b : Int
  t : Int
  n : Int
  v : Int
  m : Int
  f : FR

/-- The cells of a packet. -/
def VP.cs (x : VP) : Array Value := #[.int .u32 x.a, .int .u32 x.b, .int .i64 x.t, .int .i64 x.n, .int .u32 x.v, .int .u32 x.m, .int .u64 x.f.s, .int .u64 x.f.d, .int .i64 x.f.k, .int .i64 x.f.op, .int .u64 x.f.sm, .int .u32 x.f.si, .int .u64 x.f.tm, .int .u32 x.f.ti, .int .u32 x.f.hs, .int .u32 x.f.hd, .int .i64 x.f.tl, .int .i64 x.f.pr, .int .i64 x.f.sp, .int .i64 x.f.dp, .int .u64 x.f.da]
def vp0 : VP := ⟨0, 0, 0, 0, 0, 0, fr0⟩
theorem VP.size (x : VP) : x.cs.size = 21 := rfl
theorem VP.one (x : VP) : x.cs.all (·.oneCell') = true := by simp [VP.cs, Value.oneCell']
def VP.same (x y : VP) : Bool := x.a == y.a && x.b == y.b && x.t == y.t && x.n == y.n && x.v == y.v && x.m == y.m && x.f.same y.f
theorem VP.same_iff {x y : VP} : x.same y = true ↔ x = y := by
  cases x; cases y
  simp [VP.same, VP.mk.injEq, FR.same_iff, and_assoc]
theorem VP.same_self (x : VP) : x.same x = true := VP.same_iff.2 rfl
theorem vp_fit : (Try.prog.info? 34).map (·.size) = some 21 := by kernel_rfl
theorem VP.fit (x : VP) : (Try.prog.info? 34).map (·.size) = some x.cs.size := vp_fit
theorem vp_stood : Try.prog.stoodInHeld 34 = false := by kernel_rfl

theorem Has.v0 {w : World} {g : Nat} {t : TypeId} {x : VP} (h : Has w g t x.cs) : w.cell? ⟨g, 0, none⟩ = some (.int .u32 x.a) := h.cell 0
theorem Has.v1 {w : World} {g : Nat} {t : TypeId} {x : VP} (h : Has w g t x.cs) : w.cell? ⟨g, 1, none⟩ = some (.int .u32 x.b) := h.cell 1
theorem Has.v2 {w : World} {g : Nat} {t : TypeId} {x : VP} (h : Has w g t x.cs) : w.cell? ⟨g, 2, none⟩ = some (.int .i64 x.t) := h.cell 2
theorem Has.v3 {w : World} {g : Nat} {t : TypeId} {x : VP} (h : Has w g t x.cs) : w.cell? ⟨g, 3, none⟩ = some (.int .i64 x.n) := h.cell 3
theorem Has.v4 {w : World} {g : Nat} {t : TypeId} {x : VP} (h : Has w g t x.cs) : w.cell? ⟨g, 4, none⟩ = some (.int .u32 x.v) := h.cell 4
theorem Has.v5 {w : World} {g : Nat} {t : TypeId} {x : VP} (h : Has w g t x.cs) : w.cell? ⟨g, 5, none⟩ = some (.int .u32 x.m) := h.cell 5
/-- The frame inside, as a part of the block. -/
theorem Has.inner {w : World} {g : Nat} {t : TypeId} {x : VP} (h : Has w g t x.cs) : w.rangeAt g 6 x.f.cs.toList := fun j v hv => by
  have h1 := h.cell (6 + j)
  rw [h1]
  have hj : j < 15 := by
    obtain ⟨hj, _⟩ := List.getElem?_eq_some_iff.1 hv
    simpa [FR.cs] using hj
  have h2 : x.cs[6 + j]? = x.f.cs.toList[j]? := by
    have : j = 0 ∨ j = 1 ∨ j = 2 ∨ j = 3 ∨ j = 4 ∨ j = 5 ∨ j = 6 ∨ j = 7 ∨ j = 8 ∨ j = 9 ∨ j = 10 ∨ j = 11 ∨ j = 12 ∨ j = 13 ∨ j = 14 := by omega
    rcases this with rfl | rfl | rfl | rfl | rfl | rfl | rfl | rfl | rfl | rfl | rfl | rfl | rfl | rfl | rfl <;> rfl
  rw [h2]
  exact hv
theorem fr_fit_t (x : FR) : (Try.prog.info? 32).map (·.size) = some x.cs.toList.length := fr_fit

set_option maxHeartbeats 1000000 in
theorem fr_eqd (d : Nat) (x y : FR) (w : World) : (Op.equalIn (d + 3) 32 (.agg x.cs) (.agg y.cs)).run Try.prog w = .ok (x.same y) w := by
  rw [run_equalIn_struct w (d + 2) 32 _ _ Try.underlying32 fr_stood]
  have px0 : (part 26 x.cs 0).run Try.prog w = .ok (.int .u64 x.s) w := by kernel_rfl
  have py0 : (part 26 y.cs 0).run Try.prog w = .ok (.int .u64 y.s) w := by kernel_rfl
  have px1 : (part 26 x.cs 1).run Try.prog w = .ok (.int .u64 x.d) w := by kernel_rfl
  have py1 : (part 26 y.cs 1).run Try.prog w = .ok (.int .u64 y.d) w := by kernel_rfl
  have px2 : (part 3 x.cs 2).run Try.prog w = .ok (.int .i64 x.k) w := by kernel_rfl
  have py2 : (part 3 y.cs 2).run Try.prog w = .ok (.int .i64 y.k) w := by kernel_rfl
  have px3 : (part 28 x.cs 3).run Try.prog w = .ok (.agg x.ac) w := by kernel_rfl
  have py3 : (part 28 y.cs 3).run Try.prog w = .ok (.agg y.ac) w := by kernel_rfl
  have px4 : (part 30 x.cs 8).run Try.prog w = .ok (.agg x.hc) w := by kernel_rfl
  have py4 : (part 30 y.cs 8).run Try.prog w = .ok (.agg y.hc) w := by kernel_rfl
  have px5 : (part 25 x.cs 14).run Try.prog w = .ok (.int .u64 x.da) w := by kernel_rfl
  have py5 : (part 25 y.cs 14).run Try.prog w = .ok (.int .u64 y.da) w := by kernel_rfl
  have h := (fld_step (d := (d + 2)) (xs := x.cs) (ys := y.cs) (f := (Try.prog.fieldsOf 32).toList[0]'(by decide)) (fs := [(Try.prog.fieldsOf 32).toList[1]'(by decide), (Try.prog.fieldsOf 32).toList[2]'(by decide), (Try.prog.fieldsOf 32).toList[3]'(by decide), (Try.prog.fieldsOf 32).toList[4]'(by decide), (Try.prog.fieldsOf 32).toList[5]'(by decide)]) (w := w) _ _ (by decide) px0 py0 (run_equalIn_int w (d + 1) 26 .u64 .u64 x.s y.s Try.underlying26)
    (fld_step (d := (d + 2)) (xs := x.cs) (ys := y.cs) (f := (Try.prog.fieldsOf 32).toList[1]'(by decide)) (fs := [(Try.prog.fieldsOf 32).toList[2]'(by decide), (Try.prog.fieldsOf 32).toList[3]'(by decide), (Try.prog.fieldsOf 32).toList[4]'(by decide), (Try.prog.fieldsOf 32).toList[5]'(by decide)]) (w := w) _ _ (by decide) px1 py1 (run_equalIn_int w (d + 1) 26 .u64 .u64 x.d y.d Try.underlying26)
    (fld_step (d := (d + 2)) (xs := x.cs) (ys := y.cs) (f := (Try.prog.fieldsOf 32).toList[2]'(by decide)) (fs := [(Try.prog.fieldsOf 32).toList[3]'(by decide), (Try.prog.fieldsOf 32).toList[4]'(by decide), (Try.prog.fieldsOf 32).toList[5]'(by decide)]) (w := w) _ _ (by decide) px2 py2 (run_equalIn_int w (d + 1) 3 .i64 .i64 x.k y.k Try.underlying3)
    (fld_step (d := (d + 2)) (xs := x.cs) (ys := y.cs) (f := (Try.prog.fieldsOf 32).toList[3]'(by decide)) (fs := [(Try.prog.fieldsOf 32).toList[4]'(by decide), (Try.prog.fieldsOf 32).toList[5]'(by decide)]) (w := w) _ _ (by decide) px3 py3 (ap_eq d x y w)
    (fld_step (d := (d + 2)) (xs := x.cs) (ys := y.cs) (f := (Try.prog.fieldsOf 32).toList[4]'(by decide)) (fs := [(Try.prog.fieldsOf 32).toList[5]'(by decide)]) (w := w) _ _ (by decide) px4 py4 (hp_eq d x y w)
    (fld_step (d := (d + 2)) (xs := x.cs) (ys := y.cs) (f := (Try.prog.fieldsOf 32).toList[5]'(by decide)) (fs := []) (w := w) _ _ (by decide) px5 py5 (run_equalIn_int w (d + 1) 25 .u64 .u64 x.da y.da Try.underlying25)
    (fld_nil _ _ _ _ _)))))))
  have hs : x.same y = ((x.s == y.s) && ((x.d == y.d) && ((x.k == y.k) && ((x.sameA y) && ((x.sameH y) && ((x.da == y.da) && true)))))) := by
    simp [FR.same, FR.sameA, FR.sameH, Bool.and_assoc]
  rw [hs]
  exact h

set_option maxHeartbeats 1000000 in
theorem vp_eq (x y : VP) (w : World) : (Op.equalIn 10000 34 (.agg x.cs) (.agg y.cs)).run Try.prog w = .ok (x.same y) w := by
  rw [run_equalIn_struct w 9999 34 _ _ Try.underlying34 vp_stood]
  have px0 : (part 24 x.cs 0).run Try.prog w = .ok (.int .u32 x.a) w := by kernel_rfl
  have py0 : (part 24 y.cs 0).run Try.prog w = .ok (.int .u32 y.a) w := by kernel_rfl
  have px1 : (part 24 x.cs 1).run Try.prog w = .ok (.int .u32 x.b) w := by kernel_rfl
  have py1 : (part 24 y.cs 1).run Try.prog w = .ok (.int .u32 y.b) w := by kernel_rfl
  have px2 : (part 3 x.cs 2).run Try.prog w = .ok (.int .i64 x.t) w := by kernel_rfl
  have py2 : (part 3 y.cs 2).run Try.prog w = .ok (.int .i64 y.t) w := by kernel_rfl
  have px3 : (part 3 x.cs 3).run Try.prog w = .ok (.int .i64 x.n) w := by kernel_rfl
  have py3 : (part 3 y.cs 3).run Try.prog w = .ok (.int .i64 y.n) w := by kernel_rfl
  have px4 : (part 23 x.cs 4).run Try.prog w = .ok (.int .u32 x.v) w := by kernel_rfl
  have py4 : (part 23 y.cs 4).run Try.prog w = .ok (.int .u32 y.v) w := by kernel_rfl
  have px5 : (part 23 x.cs 5).run Try.prog w = .ok (.int .u32 x.m) w := by kernel_rfl
  have py5 : (part 23 y.cs 5).run Try.prog w = .ok (.int .u32 y.m) w := by kernel_rfl
  have px6 : (part 32 x.cs 6).run Try.prog w = .ok (.agg x.f.cs) w := by kernel_rfl
  have py6 : (part 32 y.cs 6).run Try.prog w = .ok (.agg y.f.cs) w := by kernel_rfl
  have h := (fld_step (d := 9999) (xs := x.cs) (ys := y.cs) (f := (Try.prog.fieldsOf 34).toList[0]'(by decide)) (fs := [(Try.prog.fieldsOf 34).toList[1]'(by decide), (Try.prog.fieldsOf 34).toList[2]'(by decide), (Try.prog.fieldsOf 34).toList[3]'(by decide), (Try.prog.fieldsOf 34).toList[4]'(by decide), (Try.prog.fieldsOf 34).toList[5]'(by decide), (Try.prog.fieldsOf 34).toList[6]'(by decide)]) (w := w) _ _ (by decide) px0 py0 (run_equalIn_int w 9998 24 .u32 .u32 x.a y.a Try.underlying24)
    (fld_step (d := 9999) (xs := x.cs) (ys := y.cs) (f := (Try.prog.fieldsOf 34).toList[1]'(by decide)) (fs := [(Try.prog.fieldsOf 34).toList[2]'(by decide), (Try.prog.fieldsOf 34).toList[3]'(by decide), (Try.prog.fieldsOf 34).toList[4]'(by decide), (Try.prog.fieldsOf 34).toList[5]'(by decide), (Try.prog.fieldsOf 34).toList[6]'(by decide)]) (w := w) _ _ (by decide) px1 py1 (run_equalIn_int w 9998 24 .u32 .u32 x.b y.b Try.underlying24)
    (fld_step (d := 9999) (xs := x.cs) (ys := y.cs) (f := (Try.prog.fieldsOf 34).toList[2]'(by decide)) (fs := [(Try.prog.fieldsOf 34).toList[3]'(by decide), (Try.prog.fieldsOf 34).toList[4]'(by decide), (Try.prog.fieldsOf 34).toList[5]'(by decide), (Try.prog.fieldsOf 34).toList[6]'(by decide)]) (w := w) _ _ (by decide) px2 py2 (run_equalIn_int w 9998 3 .i64 .i64 x.t y.t Try.underlying3)
    (fld_step (d := 9999) (xs := x.cs) (ys := y.cs) (f := (Try.prog.fieldsOf 34).toList[3]'(by decide)) (fs := [(Try.prog.fieldsOf 34).toList[4]'(by decide), (Try.prog.fieldsOf 34).toList[5]'(by decide), (Try.prog.fieldsOf 34).toList[6]'(by decide)]) (w := w) _ _ (by decide) px3 py3 (run_equalIn_int w 9998 3 .i64 .i64 x.n y.n Try.underlying3)
    (fld_step (d := 9999) (xs := x.cs) (ys := y.cs) (f := (Try.prog.fieldsOf 34).toList[4]'(by decide)) (fs := [(Try.prog.fieldsOf 34).toList[5]'(by decide), (Try.prog.fieldsOf 34).toList[6]'(by decide)]) (w := w) _ _ (by decide) px4 py4 (run_equalIn_int w 9998 23 .u32 .u32 x.v y.v Try.underlying23)
    (fld_step (d := 9999) (xs := x.cs) (ys := y.cs) (f := (Try.prog.fieldsOf 34).toList[5]'(by decide)) (fs := [(Try.prog.fieldsOf 34).toList[6]'(by decide)]) (w := w) _ _ (by decide) px5 py5 (run_equalIn_int w 9998 23 .u32 .u32 x.m y.m Try.underlying23)
    (fld_step (d := 9999) (xs := x.cs) (ys := y.cs) (f := (Try.prog.fieldsOf 34).toList[6]'(by decide)) (fs := []) (w := w) _ _ (by decide) px6 py6 (fr_eqd 9996 x.f y.f w)
    (fld_nil _ _ _ _ _))))))))
  have hs : x.same y = ((x.a == y.a) && ((x.b == y.b) && ((x.t == y.t) && ((x.n == y.n) && ((x.v == y.v) && ((x.m == y.m) && ((x.f.same y.f) && true))))))) := by
    simp [VP.same, Bool.and_assoc]
  rw [hs]
  exact h

theorem neq_vp (x y : VP) (w : World) : (binOp .neq 34 (.agg x.cs) (.agg y.cs)).run Try.prog w = .ok (.bool (!x.same y)) w := by
  rw [run_neq_struct, vp_eq]; rfl
theorem eql_vp (x y : VP) (w : World) : (binOp .eql 34 (.agg x.cs) (.agg y.cs)).run Try.prog w = .ok (.bool (x.same y)) w := by
  rw [run_eql_struct, vp_eq]; rfl

/-- The ranges of the types. -/
structure VP.ty (x : VP) : Prop where
  a : 0 ≤ x.a ∧ x.a < 4294967296
  b : 0 ≤ x.b ∧ x.b < 4294967296
  t : (Lit.int .i64 x.t).wf = true
  n : (Lit.int .i64 x.n).wf = true
  v : 0 ≤ x.v ∧ x.v < 4294967296
  m : 0 ≤ x.m ∧ x.m < 4294967296
  f : x.f.ty

theorem list21 {α : Type} (l : List α) (h : l.length = 21) : ∃ c0 c1 c2 c3 c4 c5 c6 c7 c8 c9 c10 c11 c12 c13 c14 c15 c16 c17 c18 c19 c20, l = [c0, c1, c2, c3, c4, c5, c6, c7, c8, c9, c10, c11, c12, c13, c14, c15, c16, c17, c18, c19, c20] := by
  match l, h with
  | [c0, c1, c2, c3, c4, c5, c6, c7, c8, c9, c10, c11, c12, c13, c14, c15, c16, c17, c18, c19, c20], _ => exact ⟨c0, c1, c2, c3, c4, c5, c6, c7, c8, c9, c10, c11, c12, c13, c14, c15, c16, c17, c18, c19, c20, rfl⟩
theorem cellsVp : Try.prog.cellsOf 34 = 21 := by kernel_rfl
theorem typesVp : Try.prog.cellTypes Try.prog.depth 34 = some [24, 24, 3, 3, 23, 23, 26, 26, 3, 3, 26, 24, 26, 24, 24, 24, 3, 3, 3, 3, 25] := by kernel_rfl
section
variable {W : World} {base : Nat}
theorem open_vp {v : Value} (hv : Value.okWide Try.prog W .any base 34 v) : ∃ x : VP, v = .agg x.cs ∧ x.ty := by
  obtain ⟨cs, rfl, hsz, ts, hts, _, hc⟩ : ∃ cs, v = .agg cs ∧ cs.size = Try.prog.cellsOf 34 ∧ Row.okWide Try.prog W .any base 34 cs := by
    simpa [Value.okWide, Try.underlying34] using hv
  rw [cellsVp] at hsz
  rw [typesVp] at hts
  injection hts with hts
  subst hts
  obtain ⟨l⟩ := cs
  obtain ⟨c0, c1, c2, c3, c4, c5, c6, c7, c8, c9, c10, c11, c12, c13, c14, c15, c16, c17, c18, c19, c20, rfl⟩ := list21 l (by simpa using hsz)
  have at_ : ∀ (i : Nat) (v : Value) (u : TypeId), (#[c0, c1, c2, c3, c4, c5, c6, c7, c8, c9, c10, c11, c12, c13, c14, c15, c16, c17, c18, c19, c20] : Array Value)[i]? = some v → [24, 24, 3, 3, 23, 23, 26, 26, 3, 3, 26, 24, 26, 24, 24, 24, 3, 3, 3, 3, 25][i % 21]? = some u → Cell.okWide Try.prog W .any base u v := fun i v u h1 h2 => by
    obtain ⟨u', h3, h4⟩ := hc i v h1
    have h5 : some u' = some u := h3.symm.trans h2
    injection h5 with h5
    exact h5 ▸ h4
  obtain ⟨n0, rfl, h0⟩ := cell_has Try.underlying24 (at_ 0 _ _ rfl rfl)
  obtain ⟨n1, rfl, h1⟩ := cell_has Try.underlying24 (at_ 1 _ _ rfl rfl)
  obtain ⟨n2, rfl, h2⟩ := cell_has Try.underlying3 (at_ 2 _ _ rfl rfl)
  obtain ⟨n3, rfl, h3⟩ := cell_has Try.underlying3 (at_ 3 _ _ rfl rfl)
  obtain ⟨n4, rfl, h4⟩ := cell_has Try.underlying23 (at_ 4 _ _ rfl rfl)
  obtain ⟨n5, rfl, h5⟩ := cell_has Try.underlying23 (at_ 5 _ _ rfl rfl)
  obtain ⟨n6, rfl, h6⟩ := cell_has Try.underlying26 (at_ 6 _ _ rfl rfl)
  obtain ⟨n7, rfl, h7⟩ := cell_has Try.underlying26 (at_ 7 _ _ rfl rfl)
  obtain ⟨n8, rfl, h8⟩ := cell_has Try.underlying3 (at_ 8 _ _ rfl rfl)
  obtain ⟨n9, rfl, h9⟩ := cell_has Try.underlying3 (at_ 9 _ _ rfl rfl)
  obtain ⟨n10, rfl, h10⟩ := cell_has Try.underlying26 (at_ 10 _ _ rfl rfl)
  obtain ⟨n11, rfl, h11⟩ := cell_has Try.underlying24 (at_ 11 _ _ rfl rfl)
  obtain ⟨n12, rfl, h12⟩ := cell_has Try.underlying26 (at_ 12 _ _ rfl rfl)
  obtain ⟨n13, rfl, h13⟩ := cell_has Try.underlying24 (at_ 13 _ _ rfl rfl)
  obtain ⟨n14, rfl, h14⟩ := cell_has Try.underlying24 (at_ 14 _ _ rfl rfl)
  obtain ⟨n15, rfl, h15⟩ := cell_has Try.underlying24 (at_ 15 _ _ rfl rfl)
  obtain ⟨n16, rfl, h16⟩ := cell_has Try.underlying3 (at_ 16 _ _ rfl rfl)
  obtain ⟨n17, rfl, h17⟩ := cell_has Try.underlying3 (at_ 17 _ _ rfl rfl)
  obtain ⟨n18, rfl, h18⟩ := cell_has Try.underlying3 (at_ 18 _ _ rfl rfl)
  obtain ⟨n19, rfl, h19⟩ := cell_has Try.underlying3 (at_ 19 _ _ rfl rfl)
  obtain ⟨n20, rfl, h20⟩ := cell_has Try.underlying25 (at_ 20 _ _ rfl rfl)
  exact ⟨⟨n0, n1, n2, n3, n4, n5, ⟨n6, n7, n8, n9, n10, n11, n12, n13, n14, n15, n16, n17, n18, n19, n20⟩⟩, rfl, has_u32 h0, has_u32 h1, has_wf h2, has_wf h3, has_u32 h4, has_u32 h5, ⟨has_u64 h6, has_u64 h7, has_wf h8, has_wf h9, has_u64 h10, has_u32 h11, has_u64 h12, has_u32 h13, has_u32 h14, has_u32 h15, has_wf h16, has_wf h17, has_wf h18, has_wf h19, has_u64 h20⟩⟩
end

end Go.Proofs.Ytgdfpmnbofnjfaa
