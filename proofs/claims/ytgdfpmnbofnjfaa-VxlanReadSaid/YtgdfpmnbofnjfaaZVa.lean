/- Packets that carry frames: cells, comparing, a packet as an argument; written by gen_vxa.py. -/
import Derived.Test.YtgdfpmnbofnjfaaZPa
import Derived.Test.YtgdfpmnbofnjfaaZPl
namespace Go.Proofs.Ytgdfpmnbofnjfaa
open Go.ChangeShapes Go.WideShapes Go.ChangeAt Go.RowKit
set_option linter.unusedVariables false
set_option linter.unusedSimpArgs false
set_option maxRecDepth 100000

/-- A packet. -/
structure VP where
  a : Int
  b : Int
  t : Int
  n : Int
  v : Int
  m : Int
  f : FR

/-- The cells of a packet. -/
def VP.cs (x : VP) : Array Value := #[.int .u32 x.a, .int .u32 x.b, .int .i64 x.t, .int .i64 x.n, .int .u32 x.v, .int .u32 x.m, .int .u64 x.f.s, .int .u64 x.f.d, .int .i64 x.f.k, .int .i64 x.f.op, .int .u64 x.f.sm, .int .u32 x.f.si, .int .u64 x.f.tm, .int .u32 x.f.ti, .int .u32 x.f.hs, .int .u32 x.f.hd, .int .i64 x.f.tl, .int .i64 x.f.pr, .int .i64 x.f.sp, .int .i64 x.f.dp, .int .u64 x.f.da]
def vp0 : VP := ⟨0, 0, 0, 0, 0, 0, fr0⟩
theorem VP.size (x : VP) : x.cs.size = 21 := rfl
theorem VP.one (x : VP) : x.cs.all (·.oneCell') = true := by simp [VP.cs, Value.oneCell']
def VP.same (x y : VP) : Bool := x.a == y.a && x.b == y.b && x.t == y.t && x.n == y.n && x.v == y.v && x.m == y.m && x.f.same y.f
theorem VP.same_iff {x y : VP} : x.same y = true ↔ x = y := by
  cases x; cases y
  simp [VP.same, VP.mk.injEq, FR.same_iff, and_assoc]
theorem VP.same_self (x : VP) : x.same x = true := VP.same_iff.2 rfl
theorem vp_fit : (Try.prog.info? 34).map (·.size) = some 21 := by kernel_rfl
theorem VP.fit (x : VP) : (Try.prog.info? 34).map (·.size) = some x.cs.size := vp_fit
theorem vp_stood : Try.prog.stoodInHeld 34 = false := by kernel_rfl

theorem Has.v0 {w : World} {g : Nat} {t : TypeId} {x : VP} (h : Has w g t x.cs) : w.cell? ⟨g, 0, none⟩ = some (.int .u32 x.a) := h.cell 0
theorem Has.v1 {w : World} {g : Nat} {t : TypeId} {x : VP} (h : Has w g t x.cs) : w.cell? ⟨g, 1, none⟩ = some (.int .u32 x.b) := h.cell 1
theorem Has.v2 {w : World} {g : Nat} {t : TypeId} {x : VP} (h : Has w g t x.cs) : w.cell? ⟨g, 2, none⟩ = some (.int .i64 x.t) := h.cell 2
theorem Has.v3 {w : World} {g : Nat} {t : TypeId} {x : VP} (h : Has w g t x.cs) : w.cell? ⟨g, 3, none⟩ = some (.int .i64 x.n) := h.cell 3
theorem Has.v4 {w : World} {g : Nat} {t : TypeId} {x : VP} (h : Has w g t x.cs) : w.cell? ⟨g, 4, none⟩ = some (.int .u32 x.v) := h.cell 4
theorem Has.v5 {w : World} {g : Nat} {t : TypeId} {x : VP} (h : Has w g t x.cs) : w.cell? ⟨g, 5, none⟩ = some (.int .u32 x.m) := h.cell 5
/-- The frame inside, as a part of the block. -/
theorem Has.inner {w : World} {g : Nat} {t : TypeId} {x : VP} (h : Has w g t x.cs) : w.rangeAt g 6 x.f.cs.toList := fun j v hv => by
  have h1 := h.cell (6 + j)
  rw [h1]
  have hj : j < 15 := by
    obtain ⟨hj, _⟩ := List.getElem?_eq_some_iff.1 hv
    simpa [FR.cs] using hj
  have h2 : x.cs[6 + j]? = x.f.cs.toList[j]? := by
    have : j = 0 ∨ j = 1 ∨ j = 2 ∨ j = 3 ∨ j = 4 ∨ j = 5 ∨ j = 6 ∨ j = 7 ∨ j = 8 ∨ j = 9 ∨ j = 10 ∨ j = 11 ∨ j = 12 ∨ j = 13 ∨ j = 14 := by omega
    rcases this with rfl | rfl | rfl | rfl | rfl | rfl | rfl | rfl | rfl | rfl | rfl | rfl | rfl | rfl | rfl <;> rfl
  rw [h2]
  exact hv
theorem fr_fit_t (x : FR) : (Try.prog.info? 32).map (·.size) = some x.cs.toList.length := fr_fit

set_option maxHeartbeats 1000000 in
theorem fr_eqd (d : Nat) (x y : FR) (w : World) : (Op.equalIn (d + 3) 32 (.agg x.cs) (.agg y.cs)).run Try.prog w = .ok (x.same y) w := by
  rw [run_equalIn_struct w (d + 2) 32 _ _ Try.underlying32 fr_stood]
  have px0 : (part 26 x.cs 0).run Try.prog w = .ok (.int .u64 x.s) w := by kernel_rfl
  have py0 : (part 26 y.cs 0).run Try.prog w = .ok (.int .u64 y.s) w := by kernel_rfl
  have px1 : (part 26 x.cs 1).run Try.prog w = .ok (.int .u64 x.d) w := by kernel_rfl
  have py1 : (part 26 y.cs 1).run Try.prog w = .ok (.int .u64 y.d) w := by kernel_rfl
  have px2 : (part 3 x.cs 2).run Try.prog w = .ok (.int .i64 x.k) w := by kernel_rfl
  have py2 : (part 3 y.cs 2).run Try.prog w = .ok (.int .i64 y.k) w := by kernel_rfl
  have px3 : (part 28 x.cs 3).run Try.prog w = .ok (.agg x.ac) w := by kernel_rfl
  have py3 : (part 28 y.cs 3).run Try.prog w = .ok (.agg y.ac) w := by kernel_rfl
  have px4 : (part 30 x.cs 8).run Try.prog w = .ok (.agg x.hc) w := by kernel_rfl
  have py4 : (part 30 y.cs 8).run Try.prog w = .ok (.agg y.hc) w := by kernel_rfl
  have px5 : (part 25 x.cs 14).run Try.prog w = .ok (.int .u64 x.da) w := by kernel_rfl
  have py5 : (part 25 y.cs 14).run Try.prog w = .ok (.int .u64 y.da) w := by kernel_rfl
  have h := (fld_step (d := (d + 2)) (xs := x.cs) (ys := y.cs) (f := (Try.prog.fieldsOf 32).toList[0]'(by decide)) (fs := [(Try.prog.fieldsOf 32).toList[1]'(by decide), (Try.prog.fieldsOf 32).toList[2]'(by decide), (Try.prog.fieldsOf 32).toList[3]'(by decide), (Try.prog.fieldsOf 32).toList[4]'(by decide), (Try.prog.fieldsOf 32).toList[5]'(by decide)]) (w := w) _ _ (by decide) px0 py0 (run_equalIn_int w (d + 1) 26 .u64 .u64 x.s y.s Try.underlying26)
    (fld_step (d := (d + 2)) (xs := x.cs) (ys := y.cs) (f := (Try.prog.fieldsOf 32).toList[1]'(by decide)) (fs := [(Try.prog.fieldsOf 32).toList[2]'(by decide), (Try.prog.fieldsOf 32).toList[3]'(by decide), (Try.prog.fieldsOf 32).toList[4]'(by decide), (Try.prog.fieldsOf 32).toList[5]'(by decide)]) (w := w) _ _ (by decide) px1 py1 (run_equalIn_int w (d + 1) 26 .u64 .u64 x.d y.d Try.underlying26)
    (fld_step (d := (d + 2)) (xs := x.cs) (ys := y.cs) (f := (Try.prog.fieldsOf 32).toList[2]'(by decide)) (fs := [(Try.prog.fieldsOf 32).toList[3]'(by decide), (Try.prog.fieldsOf 32).toList[4]'(by decide), (Try.prog.fieldsOf 32).toList[5]'(by decide)]) (w := w) _ _ (by decide) px2 py2 (run_equalIn_int w (d + 1) 3 .i64 .i64 x.k y.k Try.underlying3)
    (fld_step (d := (d + 2)) (xs := x.cs) (ys := y.cs) (f := (Try.prog.fieldsOf 32).toList[3]'(by decide)) (fs := [(Try.prog.fieldsOf 32).toList[4]'(by decide), (Try.prog.fieldsOf 32).toList[5]'(by decide)]) (w := w) _ _ (by decide) px3 py3 (ap_eq d x y w)
    (fld_step (d := (d + 2)) (xs := x.cs) (ys := y.cs) (f := (Try.prog.fieldsOf 32).toList[4]'(by decide)) (fs := [(Try.prog.fieldsOf 32).toList[5]'(by decide)]) (w := w) _ _ (by decide) px4 py4 (hp_eq d x y w)
    (fld_step (d := (d + 2)) (xs := x.cs) (ys := y.cs) (f := (Try.prog.fieldsOf 32).toList[5]'(by decide)) (fs := []) (w := w) _ _ (by decide) px5 py5 (run_equalIn_int w (d + 1) 25 .u64 .u64 x.da y.da Try.underlying25)
    (fld_nil _ _ _ _ _)))))))
  have hs : x.same y = ((x.s == y.s) && ((x.d == y.d) && ((x.k == y.k) && ((x.sameA y) && ((x.sameH y) && ((x.da == y.da) && true)))))) := by
    simp [FR.same, FR.sameA, FR.sameH, Bool.and_assoc]
  rw [hs]
  exact h

set_option maxHeartbeats 1000000 in
theorem vp_eq (x y : VP) (w : World) : (Op.equalIn 10000 34 (.agg x.cs) (.agg y.cs)).run Try.prog w = .ok (x.same y) w := by
  rw [run_equalIn_struct w 9999 34 _ _ Try.underlying34 vp_stood]
  have px0 : (part 24 x.cs 0).run Try.prog w = .ok (.int .u32 x.a) w := by kernel_rfl
  have py0 : (part 24 y.cs 0).run Try.prog w = .ok (.int .u32 y.a) w := by kernel_rfl
  have px1 : (part 24 x.cs 1).run Try.prog w = .ok (.int .u32 x.b) w := by kernel_rfl
  have py1 : (part 24 y.cs 1).run Try.prog w = .ok (.int .u32 y.b) w := by kernel_rfl
  have px2 : (part 3 x.cs 2).run Try.prog w = .ok (.int .i64 x.t) w := by kernel_rfl
  have py2 : (part 3 y.cs 2).run Try.prog w = .ok (.int .i64 y.t) w := by kernel_rfl
  have px3 : (part 3 x.cs 3).run Try.prog w = .ok (.int .i64 x.n) w := by kernel_rfl
  have py3 : (part 3 y.cs 3).run Try.prog w = .ok (.int .i64 y.n) w := by kernel_rfl
  have px4 : (part 23 x.cs 4).run Try.prog w = .ok (.int .u32 x.v) w := by kernel_rfl
  have py4 : (part 23 y.cs 4).run Try.prog w = .ok (.int .u32 y.v) w := by kernel_rfl
  have px5 : (part 23 x.cs 5).run Try.prog w = .ok (.int .u32 x.m) w := by kernel_rfl
  have py5 : (part 23 y.cs 5).run Try.prog w = .ok (.int .u32 y.m) w := by kernel_rfl
  have px6 : (part 32 x.cs 6).run Try.prog w = .ok (.agg x.f.cs) w := by kernel_rfl
  have py6 : (part 32 y.cs 6).run Try.prog w = .ok (.agg y.f.cs) w := by kernel_rfl
  have h := (fld_step (d := 9999) (xs := x.cs) (ys := y.cs) (f := (Try.prog.fieldsOf 34).toList[0]'(by decide)) (fs := [(Try.prog.fieldsOf 34).toList[1]'(by decide), (Try.prog.fieldsOf 34).toList[2]'(by decide), (Try.prog.fieldsOf 34).toList[3]'(by decide), (Try.prog.fieldsOf 34).toList[4]'(by decide), (Try.prog.fieldsOf 34).toList[5]'(by decide), (Try.prog.fieldsOf 34).toList[6]'(by decide)]) (w := w) _ _ (by decide) px0 py0 (run_equalIn_int w 9998 24 .u32 .u32 x.a y.a Try.underlying24)
    (fld_step (d := 9999) (xs := x.cs) (ys := y.cs) (f := (Try.prog.fieldsOf 34).toList[1]'(by decide)) (fs := [(Try.prog.fieldsOf 34).toList[2]'(by decide), (Try.prog.fieldsOf 34).toList[3]'(by decide), (Try.prog.fieldsOf 34).toList[4]'(by decide), (Try.prog.fieldsOf 34).toList[5]'(by decide), (Try.prog.fieldsOf 34).toList[6]'(by decide)]) (w := w) _ _ (by decide) px1 py1 (run_equalIn_int w 9998 24 .u32 .u32 x.b y.b Try.underlying24)
    (fld_step (d := 9999) (xs := x.cs) (ys := y.cs) (f := (Try.prog.fieldsOf 34).toList[2]'(by decide)) (fs := [(Try.prog.fieldsOf 34).toList[3]'(by decide), (Try.prog.fieldsOf 34).toList[4]'(by decide), (Try.prog.fieldsOf 34).toList[5]'(by decide), (Try.prog.fieldsOf 34).toList[6]'(by decide)]) (w := w) _ _ (by decide) px2 py2 (run_equalIn_int w 9998 3 .i64 .i64 x.t y.t Try.underlying3)
    (fld_step (d := 9999) (xs := x.cs) (ys := y.cs) (f := (Try.prog.fieldsOf 34).toList[3]'(by decide)) (fs := [(Try.prog.fieldsOf 34).toList[4]'(by decide), (Try.prog.fieldsOf 34).toList[5]'(by decide), (Try.prog.fieldsOf 34).toList[6]'(by decide)]) (w := w) _ _ (by decide) px3 py3 (run_equalIn_int w 9998 3 .i64 .i64 x.n y.n Try.underlying3)
    (fld_step (d := 9999) (xs := x.cs) (ys := y.cs) (f := (Try.prog.fieldsOf 34).toList[4]'(by decide)) (fs := [(Try.prog.fieldsOf 34).toList[5]'(by decide), (Try.prog.fieldsOf 34).toList[6]'(by decide)]) (w := w) _ _ (by decide) px4 py4 (run_equalIn_int w 9998 23 .u32 .u32 x.v y.v Try.underlying23)
    (fld_step (d := 9999) (xs := x.cs) (ys := y.cs) (f := (Try.prog.fieldsOf 34).toList[5]'(by decide)) (fs := [(Try.prog.fieldsOf 34).toList[6]'(by decide)]) (w := w) _ _ (by decide) px5 py5 (run_equalIn_int w 9998 23 .u32 .u32 x.m y.m Try.underlying23)
    (fld_step (d := 9999) (xs := x.cs) (ys := y.cs) (f := (Try.prog.fieldsOf 34).toList[6]'(by decide)) (fs := []) (w := w) _ _ (by decide) px6 py6 (fr_eqd 9996 x.f y.f w)
    (fld_nil _ _ _ _ _))))))))
  have hs : x.same y = ((x.a == y.a) && ((x.b == y.b) && ((x.t == y.t) && ((x.n == y.n) && ((x.v == y.v) && ((x.m == y.m) && ((x.f.same y.f) && true))))))) := by
    simp [VP.same, Bool.and_assoc]
  rw [hs]
  exact h

theorem neq_vp (x y : VP) (w : World) : (binOp .neq 34 (.agg x.cs) (.agg y.cs)).run Try.prog w = .ok (.bool (!x.same y)) w := by
  rw [run_neq_struct, vp_eq]; rfl
theorem eql_vp (x y : VP) (w : World) : (binOp .eql 34 (.agg x.cs) (.agg y.cs)).run Try.prog w = .ok (.bool (x.same y)) w := by
  rw [run_eql_struct, vp_eq]; rfl

/-- The ranges of the types. -/
structure VP.ty (x : VP) : Prop where
  a : 0 ≤ x.a ∧ x.a < 4294967296
  b : 0 ≤ x.b ∧ x.b < 4294967296
  t : (Lit.int .i64 x.t).wf = true
  n : (Lit.int .i64 x.n).wf = true
  v : 0 ≤ x.v ∧ x.v < 4294967296
  m : 0 ≤ x.m ∧ x.m < 4294967296
  f : x.f.ty

theorem list21 {α : Type} (l : List α) (h : l.length = 21) : ∃ c0 c1 c2 c3 c4 c5 c6 c7 c8 c9 c10 c11 c12 c13 c14 c15 c16 c17 c18 c19 c20, l = [c0, c1, c2, c3, c4, c5, c6, c7, c8, c9, c10, c11, c12, c13, c14, c15, c16, c17, c18, c19, c20] := by
  match l, h with
  | [c0, c1, c2, c3, c4, c5, c6, c7, c8, c9, c10, c11, c12, c13, c14, c15, c16, c17, c18, c19, c20], _ => exact ⟨c0, c1, c2, c3, c4, c5, c6, c7, c8, c9, c10, c11, c12, c13, c14, c15, c16, c17, c18, c19, c20, rfl⟩
theorem cellsVp : Try.prog.cellsOf 34 = 21 := by kernel_rfl
theorem typesVp : Try.prog.cellTypes Try.prog.depth 34 = some [24, 24, 3, 3, 23, 23, 26, 26, 3, 3, 26, 24, 26, 24, 24, 24, 3, 3, 3, 3, 25] := by kernel_rfl
section
variable {W : World} {base : Nat}
theorem open_vp {v : Value} (hv : Value.okWide Try.prog W .any base 34 v) : ∃ x : VP, v = .agg x.cs ∧ x.ty := by
  obtain ⟨cs, rfl, hsz, ts, hts, _, hc⟩ : ∃ cs, v = .agg cs ∧ cs.size = Try.prog.cellsOf 34 ∧ Row.okWide Try.prog W .any base 34 cs := by
    simpa [Value.okWide, Try.underlying34] using hv
  rw [cellsVp] at hsz
  rw [typesVp] at hts
  injection hts with hts
  subst hts
  obtain ⟨l⟩ := cs
  obtain ⟨c0, c1, c2, c3, c4, c5, c6, c7, c8, c9, c10, c11, c12, c13, c14, c15, c16, c17, c18, c19, c20, rfl⟩ := list21 l (by simpa using hsz)
  have at_ : ∀ (i : Nat) (v : Value) (u : TypeId), (#[c0, c1, c2, c3, c4, c5, c6, c7, c8, c9, c10, c11, c12, c13, c14, c15, c16, c17, c18, c19, c20] : Array Value)[i]? = some v → [24, 24, 3, 3, 23, 23, 26, 26, 3, 3, 26, 24, 26, 24, 24, 24, 3, 3, 3, 3, 25][i % 21]? = some u → Cell.okWide Try.prog W .any base u v := fun i v u h1 h2 => by
    obtain ⟨u', h3, h4⟩ := hc i v h1
    have h5 : some u' = some u := h3.symm.trans h2
    injection h5 with h5
    exact h5 ▸ h4
  obtain ⟨n0, rfl, h0⟩ := cell_has Try.underlying24 (at_ 0 _ _ rfl rfl)
  obtain ⟨n1, rfl, h1⟩ := cell_has Try.underlying24 (at_ 1 _ _ rfl rfl)
  obtain ⟨n2, rfl, h2⟩ := cell_has Try.underlying3 (at_ 2 _ _ rfl rfl)
  obtain ⟨n3, rfl, h3⟩ := cell_has Try.underlying3 (at_ 3 _ _ rfl rfl)
  obtain ⟨n4, rfl, h4⟩ := cell_has Try.underlying23 (at_ 4 _ _ rfl rfl)
  obtain ⟨n5, rfl, h5⟩ := cell_has Try.underlying23 (at_ 5 _ _ rfl rfl)
  obtain ⟨n6, rfl, h6⟩ := cell_has Try.underlying26 (at_ 6 _ _ rfl rfl)
  obtain ⟨n7, rfl, h7⟩ := cell_has Try.underlying26 (at_ 7 _ _ rfl rfl)
  obtain ⟨n8, rfl, h8⟩ := cell_has Try.underlying3 (at_ 8 _ _ rfl rfl)
  obtain ⟨n9, rfl, h9⟩ := cell_has Try.underlying3 (at_ 9 _ _ rfl rfl)
  obtain ⟨n10, rfl, h10⟩ := cell_has Try.underlying26 (at_ 10 _ _ rfl rfl)
  obtain ⟨n11, rfl, h11⟩ := cell_has Try.underlying24 (at_ 11 _ _ rfl rfl)
  obtain ⟨n12, rfl, h12⟩ := cell_has Try.underlying26 (at_ 12 _ _ rfl rfl)
  obtain ⟨n13, rfl, h13⟩ := cell_has Try.underlying24 (at_ 13 _ _ rfl rfl)
  obtain ⟨n14, rfl, h14⟩ := cell_has Try.underlying24 (at_ 14 _ _ rfl rfl)
  obtain ⟨n15, rfl, h15⟩ := cell_has Try.underlying24 (at_ 15 _ _ rfl rfl)
  obtain ⟨n16, rfl, h16⟩ := cell_has Try.underlying3 (at_ 16 _ _ rfl rfl)
  obtain ⟨n17, rfl, h17⟩ := cell_has Try.underlying3 (at_ 17 _ _ rfl rfl)
  obtain ⟨n18, rfl, h18⟩ := cell_has Try.underlying3 (at_ 18 _ _ rfl rfl)
  obtain ⟨n19, rfl, h19⟩ := cell_has Try.underlying3 (at_ 19 _ _ rfl rfl)
  obtain ⟨n20, rfl, h20⟩ := cell_has Try.underlying25 (at_ 20 _ _ rfl rfl)
  exact ⟨⟨n0, n1, n2, n3, n4, n5, ⟨n6, n7, n8, n9, n10, n11, n12, n13, n14, n15, n16, n17, n18, n19, n20⟩⟩, rfl, has_u32 h0, has_u32 h1, has_wf h2, has_wf h3, has_u32 h4, has_u32 h5, ⟨has_u64 h6, has_u64 h7, has_wf h8, has_wf h9, has_u64 h10, has_u32 h11, has_u64 h12, has_u32 h13, has_u32 h14, has_u32 h15, has_wf h16, has_wf h17, has_wf h18, has_wf h19, has_u64 h20⟩⟩
end

end Go.Proofs.Ytgdfpmnbofnjfaa

namespace Go.Proofs.Ytgdfpmnbofnjfaa
open Go.RowKit Go.Shelf
set_option linter.unusedVariables false
set_option linter.unusedSimpArgs false
set_option maxRecDepth 100000

theorem vwithin_any (n m : Int) (w : World) : Calls Try.prog 30 #[.int .i64 n, .int .i64 m] w fun e w' => e = .returned (.bool (wi n m)) ∧ w = w' := by
  go_enter Try.func30, Try.ntmps30
  by_cases h6 : 0 ≤ n
  · have e6 : decide (0 ≤ n) = true := by simpa using h6
    go_wp2
    go_ret
    exact ⟨by simp [wi, e6], rfl⟩
  have e6 : decide (0 ≤ n) = false := by simpa using h6
  go_wp2
  go_ret
  exact ⟨by simp [wi, e6], rfl⟩

/-- What Check answers. -/
def vchk (x : VP) : Int := if wi x.t 255 = false ∨ wi x.n 65535 = false ∨ 16777215 < x.v ∨ 16777215 < x.m then 2 else fchk x.f

set_option maxHeartbeats 2000000 in
theorem vcheck_any (x : VP) (hx : x.ty) (w : World) : Calls Try.prog 14 #[.agg x.cs] w fun e w' => e = .returned (.int .i64 (vchk x)) ∧ Below w.heap.size w w' := by
  have HCk : Hid (∀ W : World, Calls Try.prog 31 #[.agg x.f.cs] W fun e w' => e = .returned (.int .i64 (fchk x.f)) ∧ Below W.heap.size W w') := Lib.hid (fun W => check_any x.f hx.f W)
  obtain ⟨r, hr⟩ : ∃ r, vchk x = r := ⟨_, rfl⟩
  rw [hr]
  have HR := Lib.hid hr
  clear hr hx
  obtain ⟨W0, hW0⟩ : ∃ W0, w.alloc (.cells x.cs 34) = W0 := ⟨_, rfl⟩
  have HBox : Hid (Has W0 w.heap.size 34 x.cs) := Lib.hid (hW0 ▸ Has.new _ _ _)
  have HL : Hid (Below w.heap.size w W0) := Lib.hid (hW0 ▸ (Below.refl _ w).alloc (Nat.le_refl _) _)
  have HSz : Hid (W0.heap.size = w.heap.size + 1) := Lib.hid (by rw [← hW0]; simp)
  obtain ⟨b1, hb1⟩ : ∃ b, wi x.t 255 = b := ⟨_, rfl⟩
  obtain ⟨b2, hb2⟩ : ∃ b, wi x.n 65535 = b := ⟨_, rfl⟩
  obtain ⟨b3, hb3⟩ : ∃ b, decide (16777215 < x.v) = b := ⟨_, rfl⟩
  obtain ⟨b4, hb4⟩ : ∃ b, decide (16777215 < x.m) = b := ⟨_, rfl⟩
  have HG : Hid (r = if b1 = false ∨ b2 = false ∨ b3 = true ∨ b4 = true then 2 else fchk x.f) := Lib.hid (by
    rw [← HR.out]
    unfold vchk
    rw [hb1, hb2]
    have e3 : 16777215 < x.v ↔ b3 = true := by rw [← hb3]; simp
    have e4 : 16777215 < x.m ↔ b4 = true := by rw [← hb4]; simp
    simp only [e3, e4])
  clear HR
  go_enter Try.func14, Try.ntmps14
  go_upto_region 1 with fail
  try rw [hW0]
  clear hW0
  have c2 := HBox.out.v2
  have c3 := HBox.out.v3
  have c4 := HBox.out.v4
  have c5 := HBox.out.v5
  cases b1
  case false =>
    clear HCk
    go_wp2_with (first | (go_at_call 30; refine (vwithin_any _ _ _).mono ?_; rintro e w1 ⟨rfl, rfl⟩; try simp only [hb1, hb2]))
    go_ret
    exact ⟨by rw [HG.out]; rfl, HL.out⟩
  cases b2
  case false =>
    clear HCk
    go_wp2_with (first | (go_at_call 30; refine (vwithin_any _ _ _).mono ?_; rintro e w1 ⟨rfl, rfl⟩; try simp only [hb1, hb2]))
    go_ret
    exact ⟨by rw [HG.out]; rfl, HL.out⟩
  cases b3
  case true =>
    clear HCk
    go_wp2_with (first | (go_at_call 30; refine (vwithin_any _ _ _).mono ?_; rintro e w1 ⟨rfl, rfl⟩; try simp only [hb1, hb2]))
    go_ret
    exact ⟨by rw [HG.out]; rfl, HL.out⟩
  cases b4
  case true =>
    clear HCk
    go_wp2_with (first | (go_at_call 30; refine (vwithin_any _ _ _).mono ?_; rintro e w1 ⟨rfl, rfl⟩; try simp only [hb1, hb2]))
    go_ret
    exact ⟨by rw [HG.out]; rfl, HL.out⟩
  go_wp2_with (first | (go_at_call 30; refine (vwithin_any _ _ _).mono ?_; rintro e w1 ⟨rfl, rfl⟩; try simp only [hb1, hb2]) | (refine wpList_load_mid rfl 32 (.tmp 23) rfl w.heap.size 6 rfl x.f.cs.toList _ HBox.out.inner Try.underlying32 rfl (fr_fit_t x.f) ?_) | (go_at_call 31; refine (HCk.out _).mono ?_; rintro e w2 ⟨rfl, hb9⟩; have HB2 := Lib.hid hb9; clear hb9))
  go_ret
  exact ⟨by rw [HG.out]; rfl, HL.out.trans (HB2.out.mono HL.out.size)⟩

end Go.Proofs.Ytgdfpmnbofnjfaa

namespace Go.Proofs.Ytgdfpmnbofnjfaa
open Go.RowKit Go.Shelf
set_option linter.unusedVariables false
set_option linter.unusedSimpArgs false
set_option maxRecDepth 100000

/-- An IPv4 header. -/
def ghdr (z t p s a b : Int) : List Int := be 17664 2 ++ be z 2 ++ be 0 4 ++ be t 1 ++ be p 1 ++ be s 2 ++ be a 4 ++ be b 4
theorem ghdr_len (z t p s a b : Int) : (ghdr z t p s a b).length = 20 := by simp [ghdr, be_length]
theorem ghdr_byte (z t p s a b : Int) : ∀ v ∈ ghdr z t p s a b, 0 ≤ v ∧ v ≤ 255 := by
  intro v hv
  simp only [ghdr, List.mem_append] at hv
  rcases hv with ((((((h | h) | h) | h) | h) | h) | h) | h <;> exact be_byte _ _ _ h
def ghdrS (z t p a b : Int) : List Int := ghdr z t p (sumP (ghdr z t p 0 a b)) a b
theorem ghdrS_len (z t p a b : Int) : (ghdrS z t p a b).length = 20 := ghdr_len _ _ _ _ _ _
theorem ghdrS_byte (z t p a b : Int) : ∀ v ∈ ghdrS z t p a b, 0 ≤ v ∧ v ≤ 255 := ghdr_byte _ _ _ _ _ _
/-- The headers and the whole of a packet whose frame has k bytes. -/
def vip (x : VP) (k : Nat) : List Int := ghdrS (20 + (16 + (k : Int))) x.t 17 x.a x.b
def vudp (x : VP) (k : Nat) : List Int := be x.n 2 ++ be 4789 2 ++ be (16 + (k : Int)) 2 ++ be 0 2
def vvx (x : VP) : List Int := be 8 1 ++ be x.m 3 ++ be x.v 3 ++ be 0 1
def vencK (x : VP) (k : Nat) (F : List Int) : List Int := (([] ++ vip x k) ++ vudp x k) ++ vvx x ++ F
def venc (x : VP) : List Int := vencK x (fenc x.f).length (fenc x.f)
structure VP.ok (x : VP) : Prop where
  a : 0 ≤ x.a ∧ x.a < 4294967296
  b : 0 ≤ x.b ∧ x.b < 4294967296
  t : 0 ≤ x.t ∧ x.t ≤ 255
  n : 0 ≤ x.n ∧ x.n ≤ 65535
  v : 0 ≤ x.v ∧ x.v ≤ 16777215
  m : 0 ≤ x.m ∧ x.m ≤ 16777215
theorem wi_le' {n m : Int} (h : ¬ wi n m = false) : 0 ≤ n ∧ n ≤ m := by
  unfold wi at h
  simpa using h
theorem vchk_zero {x : VP} (hx : x.ty) (h : vchk x = 0) : x.ok ∧ fchk x.f = 0 := by
  unfold vchk at h
  split at h
  · omega
  rename_i h1
  refine ⟨⟨hx.a, hx.b, wi_le' (fun h => h1 (.inl h)), wi_le' (fun h => h1 (.inr (.inl h))), ⟨hx.v.1, ?_⟩, ⟨hx.m.1, ?_⟩⟩, h⟩
  · by_cases h2 : 16777215 < x.v
    · exact absurd (.inr (.inr (.inl h2))) h1
    · omega
  · by_cases h2 : 16777215 < x.m
    · exact absurd (.inr (.inr (.inr h2))) h1
    · omega
theorem vchk_mk {x : VP} (h : x.ok) : vchk x = fchk x.f := by
  obtain ⟨t0, t1⟩ := h.t
  obtain ⟨n0, n1⟩ := h.n
  obtain ⟨v0, v1⟩ := h.v
  obtain ⟨m0, m1⟩ := h.m
  have e1 : wi x.t 255 = true := by unfold wi; simp; omega
  have e2 : wi x.n 65535 = true := by unfold wi; simp; omega
  unfold vchk
  rw [e1, e2, if_neg (by simp; omega)]

end Go.Proofs.Ytgdfpmnbofnjfaa

namespace Go.Proofs.Ytgdfpmnbofnjfaa
open Go.RowKit Go.Shelf
set_option linter.unusedVariables false
set_option linter.unusedSimpArgs false
set_option maxRecDepth 100000

/-- The packet that the headers say. -/
def vdec (bs : List Int) (f : FR) : VP := ⟨nm bs 12 4, nm bs 16 4, nm bs 8 1, nm bs 20 2, nm bs 32 3, nm bs 29 3, f⟩
/-- What Read answers. -/
def vread (bs : List Int) : VP × Int × Int :=
  if bs.length < 36 then (vp0, 4, bs.length)
  else if nm bs 9 1 ≠ 17 then (vp0, 6, 9)
  else if nm bs 22 2 ≠ 4789 then (vp0, 6, 22)
  else if (fread (bs.drop 36)).2.1 ≠ 0 then (vp0, (fread (bs.drop 36)).2.1, (fread (bs.drop 36)).2.2 + 36)
  else if vchk (vdec bs (fread (bs.drop 36)).1) = 0 ∧ venc (vdec bs (fread (bs.drop 36)).1) = bs then (vdec bs (fread (bs.drop 36)).1, 0, 0) else (vp0, 3, 0)

def segV (x : VP) (k : Nat) (s : Int) : List (Int × Nat) := [(17664, 2), (20 + (16 + (k : Int)), 2), (0, 4), (x.t, 1), (17, 1), (s, 2), (x.a, 4), (x.b, 4), (x.n, 2), (4789, 2), (16 + (k : Int), 2), (0, 2), (8, 1), (x.m, 3), (x.v, 3), (0, 1)]
def vsum (x : VP) (k : Nat) : Int := sumP (ghdr (20 + (16 + (k : Int))) x.t 17 0 x.a x.b)
theorem venc_seg (x : VP) (k : Nat) (F : List Int) : vencK x k F = flat (segV x k (vsum x k)) ++ F := by
  unfold vencK vip vudp vvx ghdrS ghdr segV vsum ghdr
  simp only [flat, List.nil_append, List.append_nil, List.append_assoc]
theorem vsum_le (x : VP) (k : Nat) : 0 ≤ vsum x k ∧ vsum x k ≤ 65535 := sumP_le _ (ghdr_byte _ _ _ _ _ _)
theorem segV_len (x : VP) (k : Nat) (s : Int) : (flat (segV x k s)).length = 36 := by rw [flat_len]; rfl
theorem vencK_len (x : VP) (k : Nat) (F : List Int) : (vencK x k F).length = 36 + F.length := by rw [venc_seg, List.length_append, segV_len]
theorem venc_len (x : VP) : (venc x).length = 36 + (fenc x.f).length := vencK_len _ _ _
theorem fenc_len (x : FR) : (fenc x).length ≤ 50 := by
  unfold fenc fbody
  split
  · simp [bodyA, be_length]
  split
  · have := bodyH_len x
    simp only [List.length_append, be_length]
    omega
  · simp [be_length]
theorem flat_byte : ∀ (l : List (Int × Nat)), ∀ v ∈ flat l, 0 ≤ v ∧ v ≤ 255
  | [], v, h => by simp [flat] at h
  | (a, k) :: r, v, h => by
    rw [flat, List.mem_append] at h
    rcases h with h | h
    · exact be_byte _ _ _ h
    · exact flat_byte r v h
theorem venc_byte (x : VP) : ∀ v ∈ venc x, 0 ≤ v ∧ v ≤ 255 := by
  intro v hv
  unfold venc at hv
  rw [venc_seg, List.mem_append] at hv
  rcases hv with h | h
  · exact flat_byte _ _ h
  · exact fenc_byte _ _ h
theorem nm_app {A F : List Int} {p m : Nat} (h : p + m ≤ A.length) : nm (A ++ F) p m = nm A p m := by
  unfold nm
  rw [List.drop_append_of_le_length (by omega), List.take_append_of_le_length (by simp; omega)]
theorem vdrop (x : VP) : (venc x).drop 36 = fenc x.f := by
  unfold venc
  rw [venc_seg, List.drop_left' (segV_len _ _ _)]

/-- **What is read of an encoded packet is that packet.** -/
theorem vread_enc {x : VP} (hx : x.ty) (hc : vchk x = 0) : vread (venc x) = (x, 0, 0) := by
  obtain ⟨⟨⟨ha0, ha1⟩, ⟨hb0, hb1⟩, ⟨ht0, ht1⟩, ⟨hn0, hn1⟩, ⟨hv0, hv1⟩, ⟨hm0, hm1⟩⟩, hf⟩ := vchk_zero hx hc
  have hl := venc_len x
  have hfr := fread_enc hx.f hf
  obtain ⟨k, hk⟩ : ∃ k, (fenc x.f).length = k := ⟨_, rfl⟩
  obtain ⟨s, hs⟩ : ∃ s, vsum x k = s := ⟨_, rfl⟩
  have hE : venc x = flat (segV x k s) ++ fenc x.f := by unfold venc; rw [hk, venc_seg, hs]
  have hat : ∀ p m, p + m ≤ 36 → nm (venc x) p m = nm (flat (segV x k s)) p m := fun p m h => by rw [hE]; exact nm_app (by rw [segV_len]; exact h)
  have e1 : nm (venc x) 9 1 = 17 := by rw [hat _ _ (by omega)]; exact nm_seg [(17664, 2), (20 + (16 + (k : Int)), 2), (0, 4), (x.t, 1)] 17 1 [(s, 2), (x.a, 4), (x.b, 4), (x.n, 2), (4789, 2), (16 + (k : Int), 2), (0, 2), (8, 1), (x.m, 3), (x.v, 3), (0, 1)] (by omega) (by omega)
  have e2 : nm (venc x) 22 2 = 4789 := by rw [hat _ _ (by omega)]; exact nm_seg [(17664, 2), (20 + (16 + (k : Int)), 2), (0, 4), (x.t, 1), (17, 1), (s, 2), (x.a, 4), (x.b, 4), (x.n, 2)] 4789 2 [(16 + (k : Int), 2), (0, 2), (8, 1), (x.m, 3), (x.v, 3), (0, 1)] (by omega) (by omega)
  have e3 : nm (venc x) 12 4 = x.a := by rw [hat _ _ (by omega)]; exact nm_seg [(17664, 2), (20 + (16 + (k : Int)), 2), (0, 4), (x.t, 1), (17, 1), (s, 2)] x.a 4 [(x.b, 4), (x.n, 2), (4789, 2), (16 + (k : Int), 2), (0, 2), (8, 1), (x.m, 3), (x.v, 3), (0, 1)] (by omega) (by omega)
  have e4 : nm (venc x) 16 4 = x.b := by rw [hat _ _ (by omega)]; exact nm_seg [(17664, 2), (20 + (16 + (k : Int)), 2), (0, 4), (x.t, 1), (17, 1), (s, 2), (x.a, 4)] x.b 4 [(x.n, 2), (4789, 2), (16 + (k : Int), 2), (0, 2), (8, 1), (x.m, 3), (x.v, 3), (0, 1)] (by omega) (by omega)
  have e5 : nm (venc x) 8 1 = x.t := by rw [hat _ _ (by omega)]; exact nm_seg [(17664, 2), (20 + (16 + (k : Int)), 2), (0, 4)] x.t 1 [(17, 1), (s, 2), (x.a, 4), (x.b, 4), (x.n, 2), (4789, 2), (16 + (k : Int), 2), (0, 2), (8, 1), (x.m, 3), (x.v, 3), (0, 1)] (by omega) (by omega)
  have e6 : nm (venc x) 20 2 = x.n := by rw [hat _ _ (by omega)]; exact nm_seg [(17664, 2), (20 + (16 + (k : Int)), 2), (0, 4), (x.t, 1), (17, 1), (s, 2), (x.a, 4), (x.b, 4)] x.n 2 [(4789, 2), (16 + (k : Int), 2), (0, 2), (8, 1), (x.m, 3), (x.v, 3), (0, 1)] (by omega) (by omega)
  have e7 : nm (venc x) 32 3 = x.v := by rw [hat _ _ (by omega)]; exact nm_seg [(17664, 2), (20 + (16 + (k : Int)), 2), (0, 4), (x.t, 1), (17, 1), (s, 2), (x.a, 4), (x.b, 4), (x.n, 2), (4789, 2), (16 + (k : Int), 2), (0, 2), (8, 1), (x.m, 3)] x.v 3 [(0, 1)] (by omega) (by omega)
  have e8 : nm (venc x) 29 3 = x.m := by rw [hat _ _ (by omega)]; exact nm_seg [(17664, 2), (20 + (16 + (k : Int)), 2), (0, 4), (x.t, 1), (17, 1), (s, 2), (x.a, 4), (x.b, 4), (x.n, 2), (4789, 2), (16 + (k : Int), 2), (0, 2), (8, 1)] x.m 3 [(x.v, 3), (0, 1)] (by omega) (by omega)
  have hd : vdec (venc x) x.f = x := by unfold vdec; rw [e3, e4, e5, e6, e7, e8]
  unfold vread
  rw [if_neg (by omega), e1, if_neg (by decide), e2, if_neg (by decide), vdrop, hfr]
  dsimp only
  rw [hd, if_neg (by decide), if_pos ⟨hc, rfl⟩]

theorem vread_ok {bs : List Int} (h : (vread bs).2.1 = 0) : 36 ≤ bs.length ∧ (fread (bs.drop 36)).2.1 = 0 ∧ vchk (vread bs).1 = 0 ∧ venc (vread bs).1 = bs ∧ (vread bs).2.2 = 0 ∧ (vread bs).1 = vdec bs (fread (bs.drop 36)).1 := by
  unfold vread at h ⊢
  by_cases h1 : bs.length < 36
  · rw [if_pos h1] at h; simp at h
  rw [if_neg h1] at h ⊢
  by_cases h2 : nm bs 9 1 ≠ 17
  · rw [if_pos h2] at h; simp at h
  rw [if_neg h2] at h ⊢
  by_cases h3 : nm bs 22 2 ≠ 4789
  · rw [if_pos h3] at h; simp at h
  rw [if_neg h3] at h ⊢
  by_cases h4 : (fread (bs.drop 36)).2.1 ≠ 0
  · rw [if_pos h4] at h; exact absurd h h4
  rw [if_neg h4] at h ⊢
  by_cases h5 : vchk (vdec bs (fread (bs.drop 36)).1) = 0 ∧ venc (vdec bs (fread (bs.drop 36)).1) = bs
  · rw [if_pos h5]; exact ⟨by omega, by simpa using h4, h5.1, h5.2, rfl, rfl⟩
  · rw [if_neg h5] at h; simp at h
theorem vread_bad {bs : List Int} (h : (vread bs).2.1 ≠ 0) : (vread bs).1 = vp0 ∧ 0 ≤ (vread bs).2.2 ∧ (vread bs).2.2 ≤ bs.length := by
  unfold vread at h ⊢
  by_cases h1 : bs.length < 36
  · rw [if_pos h1]; exact ⟨rfl, by simp, Int.le_refl _⟩
  rw [if_neg h1] at h ⊢
  by_cases h2 : nm bs 9 1 ≠ 17
  · rw [if_pos h2]; exact ⟨rfl, by simp, by simp; omega⟩
  rw [if_neg h2] at h ⊢
  by_cases h3 : nm bs 22 2 ≠ 4789
  · rw [if_pos h3]; exact ⟨rfl, by simp, by simp; omega⟩
  rw [if_neg h3] at h ⊢
  by_cases h4 : (fread (bs.drop 36)).2.1 ≠ 0
  · rw [if_pos h4]
    obtain ⟨_, h5, h6⟩ := fread_bad h4
    have : (bs.drop 36).length = bs.length - 36 := List.length_drop
    exact ⟨rfl, by show 0 ≤ (fread (bs.drop 36)).2.2 + 36; omega, by show (fread (bs.drop 36)).2.2 + 36 ≤ _; omega⟩
  rw [if_neg h4] at h ⊢
  by_cases h5 : vchk (vdec bs (fread (bs.drop 36)).1) = 0 ∧ venc (vdec bs (fread (bs.drop 36)).1) = bs
  · rw [if_pos h5] at h; simp at h
  · rw [if_neg h5]; exact ⟨rfl, by simp, by simp⟩
theorem fread_ty {bs : List Int} (hby : ∀ v ∈ bs, 0 ≤ v ∧ v ≤ 255) (h : (fread bs).2.1 = 0) : (fread bs).1.ty := by
  rw [(fread_ok h).2.2.2.2.2]
  exact dcP_ty hby
theorem vdec_ty {bs : List Int} (hby : ∀ v ∈ bs, 0 ≤ v ∧ v ≤ 255) {f : FR} (hf : f.ty) : (vdec bs f).ty :=
  ⟨nm_u32 hby _ _ (by decide), nm_u32 hby _ _ (by decide), nm_i64 hby _ _ (by decide), nm_i64 hby _ _ (by decide), nm_u32 hby _ _ (by decide), nm_u32 hby _ _ (by decide), hf⟩
theorem vread_ty {bs : List Int} (hby : ∀ v ∈ bs, 0 ≤ v ∧ v ≤ 255) (h : (vread bs).2.1 = 0) : (vread bs).1.ty := by
  obtain ⟨_, h2, _, _, _, h6⟩ := vread_ok h
  rw [h6]
  exact vdec_ty hby (fread_ty (fun v hv => hby v (List.mem_of_mem_drop hv)) h2)

/-- The sum of a header. -/
theorem ghdr_sum (z t p s a b : Int) (h0 : 0 ≤ s) (h1 : s ≤ 65535) : wsum (ghdr z t p s a b) = s + wsum (ghdr z t p 0 a b) := by
  have key : ∀ (a b c : Int) (p q s : Int) (r : List Int), wsum ((be a 2 ++ be b 2 ++ be c 4 ++ be p 1 ++ be q 1 ++ be s 2) ++ r) = wsum (be a 2 ++ be b 2 ++ be c 4 ++ be p 1 ++ be q 1) + wsum (be s 2 ++ r) := by
    intro a b c p q s r
    simp only [be, List.cons_append, List.nil_append, List.append_assoc, wsum]
    omega
  have e : ∀ s, ghdr z t p s a b = (be 17664 2 ++ be z 2 ++ be 0 4 ++ be t 1 ++ be p 1 ++ be s 2) ++ (be a 4 ++ be b 4) := fun s => by
    unfold ghdr
    simp only [List.append_assoc]
  rw [e s, e 0, key, key, wsum_flat2 s _ h0 (by omega), wsum_flat2 0 _ (by omega) (by omega)]
  omega
theorem ghdr_pos (z t p a b : Int) : 0 < wsum (ghdr z t p 0 a b) := by
  have hb := ghdr_byte z t p 0 a b
  have e : ghdr z t p 0 a b = be 17664 2 ++ (be z 2 ++ be 0 4 ++ be t 1 ++ be p 1 ++ be 0 2 ++ be a 4 ++ be b 4) := by
    unfold ghdr
    simp only [List.append_assoc]
  rw [e] at hb ⊢
  rw [wsum_flat2 17664 _ (by omega) (by omega)]
  have := wsum_pos (l := be z 2 ++ be 0 4 ++ be t 1 ++ be p 1 ++ be 0 2 ++ be a 4 ++ be b 4) (fun v hv => (hb v (List.mem_append.2 (.inr hv))).1)
  omega
theorem ghdrS_wsum (z t p a b : Int) : ∃ m, 0 < m ∧ wsum (ghdrS z t p a b) = 65535 * m := by
  have h1 := sumP_le (ghdr z t p 0 a b) (ghdr_byte _ _ _ _ _ _)
  have h2 := sumP_ocs (ghdr_byte z t p 0 a b)
  have h3 := ghdr_pos z t p a b
  unfold ghdrS
  rw [ghdr_sum _ _ _ _ _ _ h1.1 h1.2, h2]
  unfold ocs
  rw [if_neg (by omega)]
  refine ⟨(wsum (ghdr z t p 0 a b) - 1) / 65535 + 1, by omega, by omega⟩
/-- A header with one byte changed is none. -/
theorem ghdrS_other {z t p a b z' t' p' a' b' : Int} (i : Nat) (hi : i < (ghdrS z t p a b).length) (v : Int) (h0 : 0 ≤ v) (h1 : v ≤ 255) (hy : ghdrS z' t' p' a' b' = (ghdrS z t p a b).set i v) : v = (ghdrS z t p a b)[i] := by
  obtain ⟨m, hm0, hm⟩ := ghdrS_wsum z t p a b
  obtain ⟨k, hk0, hk⟩ := ghdrS_wsum z' t' p' a' b'
  rw [hy, wsum_set _ _ _ hi, hm] at hk
  have hb := ghdrS_byte z t p a b _ (List.getElem_mem hi)
  unfold wt at hk
  split at hk <;> omega

end Go.Proofs.Ytgdfpmnbofnjfaa

namespace Go.Proofs.Ytgdfpmnbofnjfaa
open Go.RowKit Go.Shelf
set_option linter.unusedVariables false
set_option linter.unusedSimpArgs false
set_option maxRecDepth 100000

theorem be2 {a b : Int} (ha : 0 ≤ a ∧ a ≤ 255) (hb : 0 ≤ b ∧ b ≤ 255) : be (a * 256 + b) 2 = [a, b] := by
  show [(a * 256 + b) / 256 ^ 1 % 256, (a * 256 + b) / 256 ^ 0 % 256] = [a, b]
  have e1 : (256 : Int) ^ 1 = 256 := by decide
  have e0 : (256 : Int) ^ 0 = 1 := by decide
  rw [e1, e0]
  simp only [List.cons.injEq, and_true]
  refine ⟨?_, ?_⟩ <;> omega
theorem be3 {a b c : Int} (ha : 0 ≤ a ∧ a ≤ 255) (hb : 0 ≤ b ∧ b ≤ 255) (hc : 0 ≤ c ∧ c ≤ 255) : be (a * 65536 + b * 256 + c) 3 = [a, b, c] := by
  show [(a * 65536 + b * 256 + c) / 256 ^ 2 % 256, (a * 65536 + b * 256 + c) / 256 ^ 1 % 256, (a * 65536 + b * 256 + c) / 256 ^ 0 % 256] = [a, b, c]
  have e2 : (256 : Int) ^ 2 = 65536 := by decide
  have e1 : (256 : Int) ^ 1 = 256 := by decide
  have e0 : (256 : Int) ^ 0 = 1 := by decide
  rw [e2, e1, e0]
  simp only [List.cons.injEq, and_true]
  refine ⟨?_, ?_, ?_⟩ <;> omega
theorem form2 (v : Int) : ∃ a b : Int, (0 ≤ a ∧ a ≤ 255) ∧ (0 ≤ b ∧ b ≤ 255) ∧ be v 2 = [a, b] := ⟨_, _, be_byte v 2 _ (by simp [be]), be_byte v 2 _ (by simp [be]), rfl⟩
theorem form3 (v : Int) : ∃ a b c : Int, (0 ≤ a ∧ a ≤ 255) ∧ (0 ≤ b ∧ b ≤ 255) ∧ (0 ≤ c ∧ c ≤ 255) ∧ be v 3 = [a, b, c] := ⟨_, _, _, be_byte v 3 _ (by simp [be]), be_byte v 3 _ (by simp [be]), be_byte v 3 _ (by simp [be]), rfl⟩

/-- The headers behind that of IPv4. -/
def L16 (k : Nat) (n m v : List Int) : List Int := n ++ ([18, 181] ++ be (16 + (k : Int)) 2 ++ [0, 0, 8]) ++ m ++ v ++ [0]
theorem venc_split (x : VP) : venc x = vip x (fenc x.f).length ++ (L16 (fenc x.f).length (be x.n 2) (be x.m 3) (be x.v 3) ++ fenc x.f) := by
  have e1 : be 4789 2 = [18, 181] := by decide
  have e2 : be 0 2 = [0, 0] := by decide
  have e3 : be 8 1 = [8] := by decide
  have e4 : be 0 1 = [0] := by decide
  unfold venc vencK vudp vvx L16
  rw [e1, e2, e3, e4]
  simp only [List.nil_append, List.append_assoc, List.cons_append]
theorem vip_len (x : VP) (k : Nat) : (vip x k).length = 20 := ghdrS_len _ _ _ _ _
theorem L16_len {k : Nat} {n m v : List Int} (hn : n.length = 2) (hm : m.length = 3) (hv : v.length = 3) : (L16 k n m v).length = 16 := by
  unfold L16
  simp [be_length, hn, hm, hv]
/-- What of these headers only the frame's length decides. -/
theorem L16_const {k : Nat} {n m v n' m' v' : List Int} (hn : n.length = 2) (hm : m.length = 3) (hv : v.length = 3) (hn' : n'.length = 2) (hm' : m'.length = 3) (hv' : v'.length = 3) (j : Nat) (hj : (2 ≤ j ∧ j ≤ 8) ∨ j = 15) : (L16 k n m v)[j]? = (L16 k n' m' v')[j]? := by
  match n, hn, m, hm, v, hv, n', hn', m', hm', v', hv' with
  | [a, b], _, [c, d, e], _, [f, g, h], _, [a', b'], _, [c', d', e'], _, [f', g', h'], _ =>
    obtain ⟨p, q, _, _, hb⟩ := form2 (16 + (k : Int))
    unfold L16
    rw [hb]
    have : j = 2 ∨ j = 3 ∨ j = 4 ∨ j = 5 ∨ j = 6 ∨ j = 7 ∨ j = 8 ∨ j = 15 := by omega
    rcases this with rfl | rfl | rfl | rfl | rfl | rfl | rfl | rfl <;> rfl

theorem vchange_no {x : VP} (at_ : Nat) (ha : at_ < 20 ∨ (22 ≤ at_ ∧ at_ ≤ 28) ∨ at_ = 35) (hl : at_ < (venc x).length) (u : Int) (h0 : 0 ≤ u) (h1 : u ≤ 255) (hu : u ≠ (venc x)[at_]) : (vread ((venc x).set at_ u)).2.1 ≠ 0 := by
  intro h
  obtain ⟨_, _, _, he, _, _⟩ := vread_ok h
  generalize (vread ((venc x).set at_ u)).1 = y at he
  have hlen : (fenc y.f).length = (fenc x.f).length := by
    have := congrArg List.length he
    rw [List.length_set, venc_len, venc_len] at this
    omega
  obtain ⟨k, hk⟩ : ∃ k, (fenc x.f).length = k := ⟨_, rfl⟩
  have sx := venc_split x
  have sy := venc_split y
  rw [hlen] at sy
  rw [hk] at sx sy
  have hux : (venc x)[at_]? = some (venc x)[at_] := List.getElem?_eq_getElem hl
  by_cases hlt : at_ < 20
  · have h2 : vip y k = (vip x k).set at_ u := by
      have h3 : (venc y).take 20 = ((venc x).set at_ u).take 20 := by rw [he]
      rw [List.take_set, sx, sy, List.take_left' (vip_len _ _), List.take_left' (vip_len _ _)] at h3
      exact h3
    have hi : at_ < (vip x k).length := by rw [vip_len]; exact hlt
    have h4 := ghdrS_other at_ hi u h0 h1 h2
    refine hu (h4.trans ?_)
    have h5 : (venc x)[at_]? = (vip x k)[at_]? := by
      rw [sx, List.getElem?_append_left hi]
    rw [List.getElem?_eq_getElem hi, hux] at h5
    exact (Option.some.inj h5).symm
  · have h2 : (venc y)[at_]? = (venc x)[at_]? := by
      have hat : ∀ z : VP, (vip z k ++ (L16 k (be z.n 2) (be z.m 3) (be z.v 3) ++ fenc z.f))[at_]? = (L16 k (be z.n 2) (be z.m 3) (be z.v 3))[at_ - 20]? := fun z => by
        rw [List.getElem?_append_right (by rw [vip_len]; omega), vip_len, List.getElem?_append_left (by rw [L16_len (be_length _ _) (be_length _ _) (be_length _ _)]; omega)]
      rw [sx, sy, hat, hat]
      exact L16_const (be_length _ _) (be_length _ _) (be_length _ _) (be_length _ _) (be_length _ _) (be_length _ _) _ (by omega)
    rw [he, hux] at h2
    rw [List.getElem?_set_self hl] at h2
    exact hu (Option.some.inj h2)

theorem L16_n {k : Nat} {n m v : List Int} (hn : n.length = 2) (i : Nat) (hi : i < 2) (u : Int) : (L16 k n m v).set i u = L16 k (n.set i u) m v := by
  unfold L16
  rw [List.set_append_left _ _ (by simp; omega), List.set_append_left _ _ (by simp; omega), List.set_append_left _ _ (by simp; omega), List.set_append_left _ _ (by omega)]
theorem L16_m {k : Nat} {n m v : List Int} (hn : n.length = 2) (hm : m.length = 3) (i : Nat) (hi : i < 3) (u : Int) : (L16 k n m v).set (9 + i) u = L16 k n (m.set i u) v := by
  unfold L16
  have e : (n ++ ([18, 181] ++ be (16 + (k : Int)) 2 ++ [0, 0, 8])).length = 9 := by simp [be_length, hn]
  rw [List.set_append_left _ _ (by simp [be_length, hn, hm]; omega), List.set_append_left _ _ (by simp [be_length, hn, hm]; omega), List.set_append_right _ _ (by omega), e, Nat.add_sub_cancel_left]
theorem L16_v {k : Nat} {n m v : List Int} (hn : n.length = 2) (hm : m.length = 3) (hv : v.length = 3) (i : Nat) (hi : i < 3) (u : Int) : (L16 k n m v).set (12 + i) u = L16 k n m (v.set i u) := by
  unfold L16
  have e : (n ++ ([18, 181] ++ be (16 + (k : Int)) 2 ++ [0, 0, 8]) ++ m).length = 12 := by simp [be_length, hn, hm]
  rw [List.set_append_left _ _ (by simp [be_length, hn, hm, hv]; omega), List.set_append_right _ _ (by omega), e, Nat.add_sub_cancel_left]
theorem be2_set {v : Int} (i : Nat) (hi : i < 2) (u : Int) (h0 : 0 ≤ u) (h1 : u ≤ 255) : ∃ n : Int, (0 ≤ n ∧ n ≤ 65535) ∧ be n 2 = (be v 2).set i u := by
  obtain ⟨a, b, ha, hb, e⟩ := form2 v
  rw [e]
  have : i = 0 ∨ i = 1 := by omega
  rcases this with rfl | rfl
  · exact ⟨u * 256 + b, by omega, be2 ⟨h0, h1⟩ hb⟩
  · exact ⟨a * 256 + u, by omega, be2 ha ⟨h0, h1⟩⟩
theorem be3_set {v : Int} (i : Nat) (hi : i < 3) (u : Int) (h0 : 0 ≤ u) (h1 : u ≤ 255) : ∃ n : Int, (0 ≤ n ∧ n ≤ 16777215) ∧ be n 3 = (be v 3).set i u := by
  obtain ⟨a, b, c, ha, hb, hc, e⟩ := form3 v
  rw [e]
  have : i = 0 ∨ i = 1 ∨ i = 2 := by omega
  rcases this with rfl | rfl | rfl
  · exact ⟨u * 65536 + b * 256 + c, by omega, be3 ⟨h0, h1⟩ hb hc⟩
  · exact ⟨a * 65536 + u * 256 + c, by omega, be3 ha ⟨h0, h1⟩ hc⟩
  · exact ⟨a * 65536 + b * 256 + u, by omega, be3 ha hb ⟨h0, h1⟩⟩
theorem wf_small {n : Int} (h : 0 ≤ n ∧ n ≤ 65535) : (Lit.int .i64 n).wf = true := has_wf (show IntKind.i64.has n from ⟨by show (-9223372036854775808 : Int) ≤ n; omega, by show n ≤ (9223372036854775807 : Int); omega⟩)

theorem vchange_yes {x : VP} (hx : x.ty) (hc : vchk x = 0) (at_ : Nat) (ha : at_ = 20 ∨ at_ = 21 ∨ (29 ≤ at_ ∧ at_ ≤ 34)) (hl : at_ < (venc x).length) (u : Int) (h0 : 0 ≤ u) (h1 : u ≤ 255) (hu : u ≠ (venc x)[at_]) :
    ∃ y : VP, y.ty ∧ vchk y = 0 ∧ venc y = (venc x).set at_ u ∧ y ≠ x := by
  obtain ⟨hok, hf⟩ := vchk_zero hx hc
  have sx := venc_split x
  have hset : ∀ (y : VP), y.f = x.f → vip y (fenc x.f).length = vip x (fenc x.f).length → ∀ j, at_ = 20 + j → (L16 (fenc x.f).length (be x.n 2) (be x.m 3) (be x.v 3)).set j u = L16 (fenc x.f).length (be y.n 2) (be y.m 3) (be y.v 3) → j < 16 → venc y = (venc x).set at_ u := by
    intro y hyf hyv j hj hL hj16
    rw [sx, venc_split y, hyf, hyv, hj, List.set_append_right _ _ (by rw [vip_len]; omega), vip_len, Nat.add_sub_cancel_left, List.set_append_left _ _ (by rw [L16_len (be_length _ _) (be_length _ _) (be_length _ _)]; omega), hL]
  have hne : ∀ y : VP, venc y = (venc x).set at_ u → y ≠ x := by
    rintro y hy rfl
    have h2 := congrArg (fun l => l[at_]?) hy
    simp only [List.getElem?_set_self hl, List.getElem?_eq_getElem hl] at h2
    exact hu (Option.some.inj h2).symm
  by_cases hn : at_ ≤ 21
  · obtain ⟨n, hn0, hn1⟩ := be2_set (v := x.n) (at_ - 20) (by omega) u h0 h1
    have hy : venc ⟨x.a, x.b, x.t, n, x.v, x.m, x.f⟩ = (venc x).set at_ u := hset ⟨x.a, x.b, x.t, n, x.v, x.m, x.f⟩ rfl rfl (at_ - 20) (by omega) (by rw [L16_n (be_length _ _) _ (by omega), ← hn1]) (by omega)
    exact ⟨⟨x.a, x.b, x.t, n, x.v, x.m, x.f⟩, ⟨hx.a, hx.b, hx.t, wf_small hn0, hx.v, hx.m, hx.f⟩, by rw [vchk_mk (x := ⟨x.a, x.b, x.t, n, x.v, x.m, x.f⟩) ⟨hok.a, hok.b, hok.t, hn0, hok.v, hok.m⟩]; exact hf, hy, hne _ hy⟩
  by_cases hm : at_ ≤ 31
  · obtain ⟨m, hm0, hm1⟩ := be3_set (v := x.m) (at_ - 29) (by omega) u h0 h1
    have hy : venc ⟨x.a, x.b, x.t, x.n, x.v, m, x.f⟩ = (venc x).set at_ u := hset ⟨x.a, x.b, x.t, x.n, x.v, m, x.f⟩ rfl rfl (9 + (at_ - 29)) (by omega) (by rw [L16_m (be_length _ _) (be_length _ _) _ (by omega), ← hm1]) (by omega)
    exact ⟨⟨x.a, x.b, x.t, x.n, x.v, m, x.f⟩, ⟨hx.a, hx.b, hx.t, hx.n, hx.v, by show 0 ≤ m ∧ m < 4294967296; omega, hx.f⟩, by rw [vchk_mk (x := ⟨x.a, x.b, x.t, x.n, x.v, m, x.f⟩) ⟨hok.a, hok.b, hok.t, hok.n, hok.v, hm0⟩]; exact hf, hy, hne _ hy⟩
  · obtain ⟨v, hv0, hv1⟩ := be3_set (v := x.v) (at_ - 32) (by omega) u h0 h1
    have hy : venc ⟨x.a, x.b, x.t, x.n, v, x.m, x.f⟩ = (venc x).set at_ u := hset ⟨x.a, x.b, x.t, x.n, v, x.m, x.f⟩ rfl rfl (12 + (at_ - 32)) (by omega) (by rw [L16_v (be_length _ _) (be_length _ _) (be_length _ _) _ (by omega), ← hv1]) (by omega)
    exact ⟨⟨x.a, x.b, x.t, x.n, v, x.m, x.f⟩, ⟨hx.a, hx.b, hx.t, hx.n, by show 0 ≤ v ∧ v < 4294967296; omega, hx.m, hx.f⟩, by rw [vchk_mk (x := ⟨x.a, x.b, x.t, x.n, v, x.m, x.f⟩) ⟨hok.a, hok.b, hok.t, hok.n, hv0, hok.m⟩]; exact hf, hy, hne _ hy⟩

end Go.Proofs.Ytgdfpmnbofnjfaa
