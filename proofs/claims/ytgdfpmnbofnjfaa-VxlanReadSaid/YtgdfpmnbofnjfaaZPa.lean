/- Frames: their cells, comparing, a frame as an argument. -/
import Derived.Test.YtgdfpmnbofnjfaaZLw
import Derived.Laws.Rows
import Derived.Laws.StructEq
import Derived.Deep.MidRow
import Derived.ProofKit
import Derived.OpenShut
import Derived.Deep.RegionHeld3
import Derived.Deep.DeepCutAuto
import Derived.Deep.CutBlock
import Derived.Shelf.Abstract
import Derived.RangeFuncBox
import Derived.RangeFuncNested
import Derived.RangeFuncBound
import Derived.RangeFuncCalls
import Derived.RangeFuncLeaves
import Derived.WalkKit
import Derived.OwnWalkIn
import Derived.TacticsInMore
import Derived.LoopNIn
import Derived.LoopIn
namespace Go.Proofs.Ytgdfpmnbofnjfaa
open Go.ChangeShapes Go.WideShapes Go.ChangeAt Go.RowKit
set_option linter.unusedVariables false
set_option linter.unusedSimpArgs false
set_option maxRecDepth 100000

/-- A frame. -/
structure FR where
  s : Int
  d : Int
  k : Int
  op : Int
  sm : Int
  si : Int
  tm : Int
  ti : Int
  hs : Int
  hd : Int
  tl : Int
  pr : Int
  sp : Int
  dp : Int
  da : Int

/-- The cells of a frame, of its message and of its header. -/
def FR.cs (x : FR) : Array Value := #[.int .u64 x.s, .int .u64 x.d, .int .i64 x.k, .int .i64 x.op, .int .u64 x.sm, .int .u32 x.si, .int .u64 x.tm, .int .u32 x.ti, .int .u32 x.hs, .int .u32 x.hd, .int .i64 x.tl, .int .i64 x.pr, .int .i64 x.sp, .int .i64 x.dp, .int .u64 x.da]
def FR.ac (x : FR) : Array Value := #[.int .i64 x.op, .int .u64 x.sm, .int .u32 x.si, .int .u64 x.tm, .int .u32 x.ti]
def FR.hc (x : FR) : Array Value := #[.int .u32 x.hs, .int .u32 x.hd, .int .i64 x.tl, .int .i64 x.pr, .int .i64 x.sp, .int .i64 x.dp]
def fr0 : FR := ⟨0, 0, 0, 0, 0, 0, 0, 0, 0, 0, 0, 0, 0, 0, 0⟩
theorem FR.size (x : FR) : x.cs.size = 15 := rfl
theorem FR.one (x : FR) : x.cs.all (·.oneCell') = true := by simp [FR.cs, Value.oneCell']

/-- Two messages, two headers, two frames, compared. -/
def FR.sameA (x y : FR) : Bool := x.op == y.op && x.sm == y.sm && x.si == y.si && x.tm == y.tm && x.ti == y.ti
def FR.sameH (x y : FR) : Bool := x.hs == y.hs && x.hd == y.hd && x.tl == y.tl && x.pr == y.pr && x.sp == y.sp && x.dp == y.dp
def FR.same (x y : FR) : Bool := x.s == y.s && x.d == y.d && x.k == y.k && x.op == y.op && x.sm == y.sm && x.si == y.si && x.tm == y.tm && x.ti == y.ti && x.hs == y.hs && x.hd == y.hd && x.tl == y.tl && x.pr == y.pr && x.sp == y.sp && x.dp == y.dp && x.da == y.da
theorem FR.same_iff {x y : FR} : x.same y = true ↔ x = y := by
  cases x; cases y
  simp [FR.same, FR.mk.injEq, and_assoc]
theorem FR.same_self (x : FR) : x.same x = true := by simp [FR.same]
theorem fr_fit : (Try.prog.info? 32).map (·.size) = some 15 := by kernel_rfl
theorem FR.fit (x : FR) : (Try.prog.info? 32).map (·.size) = some x.cs.size := fr_fit

theorem Has.f0 {w : World} {g : Nat} {t : TypeId} {x : FR} (h : Has w g t x.cs) : w.cell? ⟨g, 0, none⟩ = some (.int .u64 x.s) := h.cell 0
theorem Has.f1 {w : World} {g : Nat} {t : TypeId} {x : FR} (h : Has w g t x.cs) : w.cell? ⟨g, 1, none⟩ = some (.int .u64 x.d) := h.cell 1
theorem Has.f2 {w : World} {g : Nat} {t : TypeId} {x : FR} (h : Has w g t x.cs) : w.cell? ⟨g, 2, none⟩ = some (.int .i64 x.k) := h.cell 2
theorem Has.f3 {w : World} {g : Nat} {t : TypeId} {x : FR} (h : Has w g t x.cs) : w.cell? ⟨g, 3, none⟩ = some (.int .i64 x.op) := h.cell 3
theorem Has.f4 {w : World} {g : Nat} {t : TypeId} {x : FR} (h : Has w g t x.cs) : w.cell? ⟨g, 4, none⟩ = some (.int .u64 x.sm) := h.cell 4
theorem Has.f5 {w : World} {g : Nat} {t : TypeId} {x : FR} (h : Has w g t x.cs) : w.cell? ⟨g, 5, none⟩ = some (.int .u32 x.si) := h.cell 5
theorem Has.f6 {w : World} {g : Nat} {t : TypeId} {x : FR} (h : Has w g t x.cs) : w.cell? ⟨g, 6, none⟩ = some (.int .u64 x.tm) := h.cell 6
theorem Has.f7 {w : World} {g : Nat} {t : TypeId} {x : FR} (h : Has w g t x.cs) : w.cell? ⟨g, 7, none⟩ = some (.int .u32 x.ti) := h.cell 7
theorem Has.f8 {w : World} {g : Nat} {t : TypeId} {x : FR} (h : Has w g t x.cs) : w.cell? ⟨g, 8, none⟩ = some (.int .u32 x.hs) := h.cell 8
theorem Has.f9 {w : World} {g : Nat} {t : TypeId} {x : FR} (h : Has w g t x.cs) : w.cell? ⟨g, 9, none⟩ = some (.int .u32 x.hd) := h.cell 9
theorem Has.f10 {w : World} {g : Nat} {t : TypeId} {x : FR} (h : Has w g t x.cs) : w.cell? ⟨g, 10, none⟩ = some (.int .i64 x.tl) := h.cell 10
theorem Has.f11 {w : World} {g : Nat} {t : TypeId} {x : FR} (h : Has w g t x.cs) : w.cell? ⟨g, 11, none⟩ = some (.int .i64 x.pr) := h.cell 11
theorem Has.f12 {w : World} {g : Nat} {t : TypeId} {x : FR} (h : Has w g t x.cs) : w.cell? ⟨g, 12, none⟩ = some (.int .i64 x.sp) := h.cell 12
theorem Has.f13 {w : World} {g : Nat} {t : TypeId} {x : FR} (h : Has w g t x.cs) : w.cell? ⟨g, 13, none⟩ = some (.int .i64 x.dp) := h.cell 13
theorem Has.f14 {w : World} {g : Nat} {t : TypeId} {x : FR} (h : Has w g t x.cs) : w.cell? ⟨g, 14, none⟩ = some (.int .u64 x.da) := h.cell 14

/-- The load of a whole frame, in whatever order. -/
theorem yields_fr {ops : Array Oper} {S : World → Prop} {op : Oper} {a : Act} (hw : Region.wanted op (yielded ops a.tmps) = true) (y : Operand) (ho : op.op = .load 32 y)
    (b : Nat) (hx : a.eval y = .pointer (some ⟨b, 0, none⟩)) (x : FR) (hS : ∀ w, S w → ∃ t, Has w b t x.cs) : YieldsIf Try.prog ops S op (.agg x.cs) a :=
  .inl ⟨hw, fun w hw' => by
    obtain ⟨t, h⟩ := hS w hw'
    unfold execOp
    simp only [ho, hx, Instr.loadAt, Instr.sureAddr, Sem.run_bind, Sem.run_pure, Result.andThen_ok, run_loadVar_row w b t 32 x.cs (0, 0) _ h Try.underlying32 rfl x.fit]⟩

theorem fld_nil (P : Program) (w : World) (d : Nat) (xs ys : Array Value) : (Op.eqFields d xs ys []).run P w = .ok true w := rfl
theorem fld_step {P : Program} {w : World} {d : Nat} {xs ys : Array Value} {f : Field} {fs : List Field} (a b : Value) {r c : Bool} (hn : f.name ≠ "_") (ha : (part f.type xs f.offset).run P w = .ok a w) (hb : (part f.type ys f.offset).run P w = .ok b w)
    (hr : (Op.equalIn d f.type a b).run P w = .ok r w) (hc : (Op.eqFields d xs ys fs).run P w = .ok c w) : (Op.eqFields d xs ys (f :: fs)).run P w = .ok (r && c) w := by
  simp only [Op.eqFields, Sem.run_bind, Sem.run_ite, ne_eq, hn, not_false_eq_true, if_true, ha, hb, hr, Result.andThen_ok, hc]
  cases r <;> simp
theorem ap_stood : Try.prog.stoodInHeld 28 = false := by kernel_rfl
theorem hp_stood : Try.prog.stoodInHeld 30 = false := by kernel_rfl
theorem fr_stood : Try.prog.stoodInHeld 32 = false := by kernel_rfl

set_option maxHeartbeats 1000000 in
theorem ap_eq (d : Nat) (x y : FR) (w : World) : (Op.equalIn (d + 2) 28 (.agg x.ac) (.agg y.ac)).run Try.prog w = .ok (x.sameA y) w := by
  rw [run_equalIn_struct w (d + 1) 28 _ _ Try.underlying28 ap_stood]
  have px0 : (part 3 x.ac 0).run Try.prog w = .ok (.int .i64 x.op) w := by kernel_rfl
  have py0 : (part 3 y.ac 0).run Try.prog w = .ok (.int .i64 y.op) w := by kernel_rfl
  have px1 : (part 26 x.ac 1).run Try.prog w = .ok (.int .u64 x.sm) w := by kernel_rfl
  have py1 : (part 26 y.ac 1).run Try.prog w = .ok (.int .u64 y.sm) w := by kernel_rfl
  have px2 : (part 24 x.ac 2).run Try.prog w = .ok (.int .u32 x.si) w := by kernel_rfl
  have py2 : (part 24 y.ac 2).run Try.prog w = .ok (.int .u32 y.si) w := by kernel_rfl
  have px3 : (part 26 x.ac 3).run Try.prog w = .ok (.int .u64 x.tm) w := by kernel_rfl
  have py3 : (part 26 y.ac 3).run Try.prog w = .ok (.int .u64 y.tm) w := by kernel_rfl
  have px4 : (part 24 x.ac 4).run Try.prog w = .ok (.int .u32 x.ti) w := by kernel_rfl
  have py4 : (part 24 y.ac 4).run Try.prog w = .ok (.int .u32 y.ti) w := by kernel_rfl
  have h := (fld_step (d := d + 1) (xs := x.ac) (ys := y.ac) (f := (Try.prog.fieldsOf 28).toList[0]'(by decide)) (fs := [(Try.prog.fieldsOf 28).toList[1]'(by decide), (Try.prog.fieldsOf 28).toList[2]'(by decide), (Try.prog.fieldsOf 28).toList[3]'(by decide), (Try.prog.fieldsOf 28).toList[4]'(by decide)]) (w := w) _ _ (by decide) px0 py0 (run_equalIn_int w d 3 .i64 .i64 x.op y.op Try.underlying3)
    (fld_step (d := d + 1) (xs := x.ac) (ys := y.ac) (f := (Try.prog.fieldsOf 28).toList[1]'(by decide)) (fs := [(Try.prog.fieldsOf 28).toList[2]'(by decide), (Try.prog.fieldsOf 28).toList[3]'(by decide), (Try.prog.fieldsOf 28).toList[4]'(by decide)]) (w := w) _ _ (by decide) px1 py1 (run_equalIn_int w d 26 .u64 .u64 x.sm y.sm Try.underlying26)
    (fld_step (d := d + 1) (xs := x.ac) (ys := y.ac) (f := (Try.prog.fieldsOf 28).toList[2]'(by decide)) (fs := [(Try.prog.fieldsOf 28).toList[3]'(by decide), (Try.prog.fieldsOf 28).toList[4]'(by decide)]) (w := w) _ _ (by decide) px2 py2 (run_equalIn_int w d 24 .u32 .u32 x.si y.si Try.underlying24)
    (fld_step (d := d + 1) (xs := x.ac) (ys := y.ac) (f := (Try.prog.fieldsOf 28).toList[3]'(by decide)) (fs := [(Try.prog.fieldsOf 28).toList[4]'(by decide)]) (w := w) _ _ (by decide) px3 py3 (run_equalIn_int w d 26 .u64 .u64 x.tm y.tm Try.underlying26)
    (fld_step (d := d + 1) (xs := x.ac) (ys := y.ac) (f := (Try.prog.fieldsOf 28).toList[4]'(by decide)) (fs := []) (w := w) _ _ (by decide) px4 py4 (run_equalIn_int w d 24 .u32 .u32 x.ti y.ti Try.underlying24)
    (fld_nil _ _ _ _ _))))))
  have hs : x.sameA y = ((x.op == y.op) && ((x.sm == y.sm) && ((x.si == y.si) && ((x.tm == y.tm) && ((x.ti == y.ti) && true))))) := by
    simp [FR.same, FR.sameA, FR.sameH, Bool.and_assoc]
  rw [hs]
  exact h

set_option maxHeartbeats 1000000 in
theorem hp_eq (d : Nat) (x y : FR) (w : World) : (Op.equalIn (d + 2) 30 (.agg x.hc) (.agg y.hc)).run Try.prog w = .ok (x.sameH y) w := by
  rw [run_equalIn_struct w (d + 1) 30 _ _ Try.underlying30 hp_stood]
  have px0 : (part 24 x.hc 0).run Try.prog w = .ok (.int .u32 x.hs) w := by kernel_rfl
  have py0 : (part 24 y.hc 0).run Try.prog w = .ok (.int .u32 y.hs) w := by kernel_rfl
  have px1 : (part 24 x.hc 1).run Try.prog w = .ok (.int .u32 x.hd) w := by kernel_rfl
  have py1 : (part 24 y.hc 1).run Try.prog w = .ok (.int .u32 y.hd) w := by kernel_rfl
  have px2 : (part 3 x.hc 2).run Try.prog w = .ok (.int .i64 x.tl) w := by kernel_rfl
  have py2 : (part 3 y.hc 2).run Try.prog w = .ok (.int .i64 y.tl) w := by kernel_rfl
  have px3 : (part 3 x.hc 3).run Try.prog w = .ok (.int .i64 x.pr) w := by kernel_rfl
  have py3 : (part 3 y.hc 3).run Try.prog w = .ok (.int .i64 y.pr) w := by kernel_rfl
  have px4 : (part 3 x.hc 4).run Try.prog w = .ok (.int .i64 x.sp) w := by kernel_rfl
  have py4 : (part 3 y.hc 4).run Try.prog w = .ok (.int .i64 y.sp) w := by kernel_rfl
  have px5 : (part 3 x.hc 5).run Try.prog w = .ok (.int .i64 x.dp) w := by kernel_rfl
  have py5 : (part 3 y.hc 5).run Try.prog w = .ok (.int .i64 y.dp) w := by kernel_rfl
  have h := (fld_step (d := d + 1) (xs := x.hc) (ys := y.hc) (f := (Try.prog.fieldsOf 30).toList[0]'(by decide)) (fs := [(Try.prog.fieldsOf 30).toList[1]'(by decide), (Try.prog.fieldsOf 30).toList[2]'(by decide), (Try.prog.fieldsOf 30).toList[3]'(by decide), (Try.prog.fieldsOf 30).toList[4]'(by decide), (Try.prog.fieldsOf 30).toList[5]'(by decide)]) (w := w) _ _ (by decide) px0 py0 (run_equalIn_int w d 24 .u32 .u32 x.hs y.hs Try.underlying24)
    (fld_step (d := d + 1) (xs := x.hc) (ys := y.hc) (f := (Try.prog.fieldsOf 30).toList[1]'(by decide)) (fs := [(Try.prog.fieldsOf 30).toList[2]'(by decide), (Try.prog.fieldsOf 30).toList[3]'(by decide), (Try.prog.fieldsOf 30).toList[4]'(by decide), (Try.prog.fieldsOf 30).toList[5]'(by decide)]) (w := w) _ _ (by decide) px1 py1 (run_equalIn_int w d 24 .u32 .u32 x.hd y.hd Try.underlying24)
    (fld_step (d := d + 1) (xs := x.hc) (ys := y.hc) (f := (Try.prog.fieldsOf 30).toList[2]'(by decide)) (fs := [(Try.prog.fieldsOf 30).toList[3]'(by decide), (Try.prog.fieldsOf 30).toList[4]'(by decide), (Try.prog.fieldsOf 30).toList[5]'(by decide)]) (w := w) _ _ (by decide) px2 py2 (run_equalIn_int w d 3 .i64 .i64 x.tl y.tl Try.underlying3)
    (fld_step (d := d + 1) (xs := x.hc) (ys := y.hc) (f := (Try.prog.fieldsOf 30).toList[3]'(by decide)) (fs := [(Try.prog.fieldsOf 30).toList[4]'(by decide), (Try.prog.fieldsOf 30).toList[5]'(by decide)]) (w := w) _ _ (by decide) px3 py3 (run_equalIn_int w d 3 .i64 .i64 x.pr y.pr Try.underlying3)
    (fld_step (d := d + 1) (xs := x.hc) (ys := y.hc) (f := (Try.prog.fieldsOf 30).toList[4]'(by decide)) (fs := [(Try.prog.fieldsOf 30).toList[5]'(by decide)]) (w := w) _ _ (by decide) px4 py4 (run_equalIn_int w d 3 .i64 .i64 x.sp y.sp Try.underlying3)
    (fld_step (d := d + 1) (xs := x.hc) (ys := y.hc) (f := (Try.prog.fieldsOf 30).toList[5]'(by decide)) (fs := []) (w := w) _ _ (by decide) px5 py5 (run_equalIn_int w d 3 .i64 .i64 x.dp y.dp Try.underlying3)
    (fld_nil _ _ _ _ _)))))))
  have hs : x.sameH y = ((x.hs == y.hs) && ((x.hd == y.hd) && ((x.tl == y.tl) && ((x.pr == y.pr) && ((x.sp == y.sp) && ((x.dp == y.dp) && true)))))) := by
    simp [FR.same, FR.sameA, FR.sameH, Bool.and_assoc]
  rw [hs]
  exact h

set_option maxHeartbeats 1000000 in
theorem fr_eq (x y : FR) (w : World) : (Op.equalIn 10000 32 (.agg x.cs) (.agg y.cs)).run Try.prog w = .ok (x.same y) w := by
  rw [run_equalIn_struct w 9999 32 _ _ Try.underlying32 fr_stood]
  have px0 : (part 26 x.cs 0).run Try.prog w = .ok (.int .u64 x.s) w := by kernel_rfl
  have py0 : (part 26 y.cs 0).run Try.prog w = .ok (.int .u64 y.s) w := by kernel_rfl
  have px1 : (part 26 x.cs 1).run Try.prog w = .ok (.int .u64 x.d) w := by kernel_rfl
  have py1 : (part 26 y.cs 1).run Try.prog w = .ok (.int .u64 y.d) w := by kernel_rfl
  have px2 : (part 3 x.cs 2).run Try.prog w = .ok (.int .i64 x.k) w := by kernel_rfl
  have py2 : (part 3 y.cs 2).run Try.prog w = .ok (.int .i64 y.k) w := by kernel_rfl
  have px3 : (part 28 x.cs 3).run Try.prog w = .ok (.agg x.ac) w := by kernel_rfl
  have py3 : (part 28 y.cs 3).run Try.prog w = .ok (.agg y.ac) w := by kernel_rfl
  have px4 : (part 30 x.cs 8).run Try.prog w = .ok (.agg x.hc) w := by kernel_rfl
  have py4 : (part 30 y.cs 8).run Try.prog w = .ok (.agg y.hc) w := by kernel_rfl
  have px5 : (part 25 x.cs 14).run Try.prog w = .ok (.int .u64 x.da) w := by kernel_rfl
  have py5 : (part 25 y.cs 14).run Try.prog w = .ok (.int .u64 y.da) w := by kernel_rfl
  have h := (fld_step (d := 9999) (xs := x.cs) (ys := y.cs) (f := (Try.prog.fieldsOf 32).toList[0]'(by decide)) (fs := [(Try.prog.fieldsOf 32).toList[1]'(by decide), (Try.prog.fieldsOf 32).toList[2]'(by decide), (Try.prog.fieldsOf 32).toList[3]'(by decide), (Try.prog.fieldsOf 32).toList[4]'(by decide), (Try.prog.fieldsOf 32).toList[5]'(by decide)]) (w := w) _ _ (by decide) px0 py0 (run_equalIn_int w 9998 26 .u64 .u64 x.s y.s Try.underlying26)
    (fld_step (d := 9999) (xs := x.cs) (ys := y.cs) (f := (Try.prog.fieldsOf 32).toList[1]'(by decide)) (fs := [(Try.prog.fieldsOf 32).toList[2]'(by decide), (Try.prog.fieldsOf 32).toList[3]'(by decide), (Try.prog.fieldsOf 32).toList[4]'(by decide), (Try.prog.fieldsOf 32).toList[5]'(by decide)]) (w := w) _ _ (by decide) px1 py1 (run_equalIn_int w 9998 26 .u64 .u64 x.d y.d Try.underlying26)
    (fld_step (d := 9999) (xs := x.cs) (ys := y.cs) (f := (Try.prog.fieldsOf 32).toList[2]'(by decide)) (fs := [(Try.prog.fieldsOf 32).toList[3]'(by decide), (Try.prog.fieldsOf 32).toList[4]'(by decide), (Try.prog.fieldsOf 32).toList[5]'(by decide)]) (w := w) _ _ (by decide) px2 py2 (run_equalIn_int w 9998 3 .i64 .i64 x.k y.k Try.underlying3)
    (fld_step (d := 9999) (xs := x.cs) (ys := y.cs) (f := (Try.prog.fieldsOf 32).toList[3]'(by decide)) (fs := [(Try.prog.fieldsOf 32).toList[4]'(by decide), (Try.prog.fieldsOf 32).toList[5]'(by decide)]) (w := w) _ _ (by decide) px3 py3 (ap_eq 9997 x y w)
    (fld_step (d := 9999) (xs := x.cs) (ys := y.cs) (f := (Try.prog.fieldsOf 32).toList[4]'(by decide)) (fs := [(Try.prog.fieldsOf 32).toList[5]'(by decide)]) (w := w) _ _ (by decide) px4 py4 (hp_eq 9997 x y w)
    (fld_step (d := 9999) (xs := x.cs) (ys := y.cs) (f := (Try.prog.fieldsOf 32).toList[5]'(by decide)) (fs := []) (w := w) _ _ (by decide) px5 py5 (run_equalIn_int w 9998 25 .u64 .u64 x.da y.da Try.underlying25)
    (fld_nil _ _ _ _ _)))))))
  have hs : x.same y = ((x.s == y.s) && ((x.d == y.d) && ((x.k == y.k) && ((x.sameA y) && ((x.sameH y) && ((x.da == y.da) && true)))))) := by
    simp [FR.same, FR.sameA, FR.sameH, Bool.and_assoc]
  rw [hs]
  exact h

theorem neq_ap (x y : FR) (w : World) : (binOp .neq 28 (.agg x.ac) (.agg y.ac)).run Try.prog w = .ok (.bool (!x.sameA y)) w := by
  rw [run_neq_struct, ap_eq 9998]; rfl
theorem eql_ap (x y : FR) (w : World) : (binOp .eql 28 (.agg x.ac) (.agg y.ac)).run Try.prog w = .ok (.bool (x.sameA y)) w := by
  rw [run_eql_struct, ap_eq 9998]; rfl

theorem neq_hp (x y : FR) (w : World) : (binOp .neq 30 (.agg x.hc) (.agg y.hc)).run Try.prog w = .ok (.bool (!x.sameH y)) w := by
  rw [run_neq_struct, hp_eq 9998]; rfl
theorem eql_hp (x y : FR) (w : World) : (binOp .eql 30 (.agg x.hc) (.agg y.hc)).run Try.prog w = .ok (.bool (x.sameH y)) w := by
  rw [run_eql_struct, hp_eq 9998]; rfl

theorem neq_fr (x y : FR) (w : World) : (binOp .neq 32 (.agg x.cs) (.agg y.cs)).run Try.prog w = .ok (.bool (!x.same y)) w := by
  rw [run_neq_struct, fr_eq]; rfl
theorem eql_fr (x y : FR) (w : World) : (binOp .eql 32 (.agg x.cs) (.agg y.cs)).run Try.prog w = .ok (.bool (x.same y)) w := by
  rw [run_eql_struct, fr_eq]; rfl

theorem ft_stood : Try.prog.stoodInHeld 37 = false := by kernel_rfl
theorem ft_eq (d : Nat) (p l q m : Int) (w : World) : (Op.equalIn (d + 2) 37 (.agg #[.int .i64 p, .int .i64 l]) (.agg #[.int .i64 q, .int .i64 m])).run Try.prog w = .ok ((p == q) && (l == m)) w := by
  rw [run_equalIn_struct w (d + 1) 37 _ _ Try.underlying37 ft_stood]
  have h := fld_step (d := d + 1) (xs := #[.int .i64 p, .int .i64 l]) (ys := #[.int .i64 q, .int .i64 m]) (f := (Try.prog.fieldsOf 37).toList[0]'(by decide)) (fs := [(Try.prog.fieldsOf 37).toList[1]'(by decide)]) (w := w) (.int .i64 p) (.int .i64 q) (by decide) (by kernel_rfl) (by kernel_rfl) (run_equalIn_int w d 35 .i64 .i64 p q Try.underlying35)
    (fld_step (w := w) (.int .i64 l) (.int .i64 m) (by decide) (by kernel_rfl) (by kernel_rfl) (run_equalIn_int w d 3 .i64 .i64 l m Try.underlying3) (fld_nil _ _ _ _ _))
  rw [Bool.and_true] at h
  exact h
theorem neq_ft (p l q m : Int) (w : World) : (binOp .neq 37 (.agg #[.int .i64 p, .int .i64 l]) (.agg #[.int .i64 q, .int .i64 m])).run Try.prog w = .ok (.bool (!((p == q) && (l == m)))) w := by
  rw [run_neq_struct, ft_eq 9998]; rfl
theorem eql_ft (p l q m : Int) (w : World) : (binOp .eql 37 (.agg #[.int .i64 p, .int .i64 l]) (.agg #[.int .i64 q, .int .i64 m])).run Try.prog w = .ok (.bool ((p == q) && (l == m))) w := by
  rw [run_eql_struct, ft_eq 9998]; rfl

/-- The ranges of the types. -/
structure FR.ty (x : FR) : Prop where
  s : 0 ≤ x.s ∧ x.s < 18446744073709551616
  d : 0 ≤ x.d ∧ x.d < 18446744073709551616
  k : (Lit.int .i64 x.k).wf = true
  op : (Lit.int .i64 x.op).wf = true
  sm : 0 ≤ x.sm ∧ x.sm < 18446744073709551616
  si : 0 ≤ x.si ∧ x.si < 4294967296
  tm : 0 ≤ x.tm ∧ x.tm < 18446744073709551616
  ti : 0 ≤ x.ti ∧ x.ti < 4294967296
  hs : 0 ≤ x.hs ∧ x.hs < 4294967296
  hd : 0 ≤ x.hd ∧ x.hd < 4294967296
  tl : (Lit.int .i64 x.tl).wf = true
  pr : (Lit.int .i64 x.pr).wf = true
  sp : (Lit.int .i64 x.sp).wf = true
  dp : (Lit.int .i64 x.dp).wf = true
  da : 0 ≤ x.da ∧ x.da < 18446744073709551616

theorem list15 {α : Type} (l : List α) (h : l.length = 15) : ∃ c0 c1 c2 c3 c4 c5 c6 c7 c8 c9 c10 c11 c12 c13 c14, l = [c0, c1, c2, c3, c4, c5, c6, c7, c8, c9, c10, c11, c12, c13, c14] := by
  match l, h with
  | [c0, c1, c2, c3, c4, c5, c6, c7, c8, c9, c10, c11, c12, c13, c14], _ => exact ⟨c0, c1, c2, c3, c4, c5, c6, c7, c8, c9, c10, c11, c12, c13, c14, rfl⟩
theorem cellsFr : Try.prog.cellsOf 32 = 15 := by kernel_rfl
theorem typesFr : Try.prog.cellTypes Try.prog.depth 32 = some [26, 26, 3, 3, 26, 24, 26, 24, 24, 24, 3, 3, 3, 3, 25] := by kernel_rfl
section
variable {W : World} {base : Nat}
theorem cell_has {t : TypeId} {k : IntKind} {v : Value} (ht : Try.prog.underlying t = some (.int k)) (h : Cell.okWide Try.prog W .any base t v) : ∃ n, v = .int k n ∧ k.has n := by
  simp only [Cell.okWide, ht] at h
  cases v <;> simp_all [Cell.ok]
theorem has_u8 {n : Int} (h : IntKind.u8.has n) : 0 ≤ n ∧ n ≤ 255 := h
theorem has_u32 {n : Int} (h : IntKind.u32.has n) : 0 ≤ n ∧ n < 4294967296 := by
  have h' : 0 ≤ n ∧ n ≤ 4294967295 := h
  omega
theorem has_u64 {n : Int} (h : IntKind.u64.has n) : 0 ≤ n ∧ n < 18446744073709551616 := by
  have h' : 0 ≤ n ∧ n ≤ 18446744073709551615 := h
  omega
theorem has_wf {n : Int} (h : IntKind.i64.has n) : (Lit.int .i64 n).wf = true := by
  simpa [Lit.wf, IntKind.has] using h
theorem open_fr {v : Value} (hv : Value.okWide Try.prog W .any base 32 v) : ∃ x : FR, v = .agg x.cs ∧ x.ty := by
  obtain ⟨cs, rfl, hsz, ts, hts, _, hc⟩ : ∃ cs, v = .agg cs ∧ cs.size = Try.prog.cellsOf 32 ∧ Row.okWide Try.prog W .any base 32 cs := by
    simpa [Value.okWide, Try.underlying32] using hv
  rw [cellsFr] at hsz
  rw [typesFr] at hts
  injection hts with hts
  subst hts
  obtain ⟨l⟩ := cs
  obtain ⟨c0, c1, c2, c3, c4, c5, c6, c7, c8, c9, c10, c11, c12, c13, c14, rfl⟩ := list15 l (by simpa using hsz)
  have at_ : ∀ (i : Nat) (v : Value) (u : TypeId), (#[c0, c1, c2, c3, c4, c5, c6, c7, c8, c9, c10, c11, c12, c13, c14] : Array Value)[i]? = some v → [26, 26, 3, 3, 26, 24, 26, 24, 24, 24, 3, 3, 3, 3, 25][i % 15]? = some u → Cell.okWide Try.prog W .any base u v := fun i v u h1 h2 => by
    obtain ⟨u', h3, h4⟩ := hc i v h1
    have h5 : some u' = some u := h3.symm.trans h2
    injection h5 with h5
    exact h5 ▸ h4
  obtain ⟨n0, rfl, h0⟩ := cell_has Try.underlying26 (at_ 0 _ _ rfl rfl)
  obtain ⟨n1, rfl, h1⟩ := cell_has Try.underlying26 (at_ 1 _ _ rfl rfl)
  obtain ⟨n2, rfl, h2⟩ := cell_has Try.underlying3 (at_ 2 _ _ rfl rfl)
  obtain ⟨n3, rfl, h3⟩ := cell_has Try.underlying3 (at_ 3 _ _ rfl rfl)
  obtain ⟨n4, rfl, h4⟩ := cell_has Try.underlying26 (at_ 4 _ _ rfl rfl)
  obtain ⟨n5, rfl, h5⟩ := cell_has Try.underlying24 (at_ 5 _ _ rfl rfl)
  obtain ⟨n6, rfl, h6⟩ := cell_has Try.underlying26 (at_ 6 _ _ rfl rfl)
  obtain ⟨n7, rfl, h7⟩ := cell_has Try.underlying24 (at_ 7 _ _ rfl rfl)
  obtain ⟨n8, rfl, h8⟩ := cell_has Try.underlying24 (at_ 8 _ _ rfl rfl)
  obtain ⟨n9, rfl, h9⟩ := cell_has Try.underlying24 (at_ 9 _ _ rfl rfl)
  obtain ⟨n10, rfl, h10⟩ := cell_has Try.underlying3 (at_ 10 _ _ rfl rfl)
  obtain ⟨n11, rfl, h11⟩ := cell_has Try.underlying3 (at_ 11 _ _ rfl rfl)
  obtain ⟨n12, rfl, h12⟩ := cell_has Try.underlying3 (at_ 12 _ _ rfl rfl)
  obtain ⟨n13, rfl, h13⟩ := cell_has Try.underlying3 (at_ 13 _ _ rfl rfl)
  obtain ⟨n14, rfl, h14⟩ := cell_has Try.underlying25 (at_ 14 _ _ rfl rfl)
  exact ⟨⟨n0, n1, n2, n3, n4, n5, n6, n7, n8, n9, n10, n11, n12, n13, n14⟩, rfl, has_u64 h0, has_u64 h1, has_wf h2, has_wf h3, has_u64 h4, has_u32 h5, has_u64 h6, has_u32 h7, has_u32 h8, has_u32 h9, has_wf h10, has_wf h11, has_wf h12, has_wf h13, has_u64 h14⟩
end

end Go.Proofs.Ytgdfpmnbofnjfaa

namespace Go.Proofs.Ytgdfpmnbofnjfaa
open Go.RowKit Go.Shelf
set_option linter.unusedVariables false
set_option linter.unusedSimpArgs false
set_option maxRecDepth 100000

/-- The protocols with ports. -/
def pd (n : Int) : Bool := n == 6 || n == 17
def wi (n m : Int) : Bool := decide (0 ≤ n) && decide (n ≤ m)
def big (n : Int) : Bool := decide (281474976710655 < n)

theorem ported_any (n : Int) (w : World) : Calls Try.prog 79 #[.int .i64 n] w fun e w' => e = .returned (.bool (pd n)) ∧ w = w' := by
  go_enter Try.func79, Try.ntmps79
  by_cases h6 : n = 6
  · subst h6
    go_wp2
    go_ret
    exact ⟨rfl, rfl⟩
  by_cases h7 : n = 17
  · subst h7
    go_wp2
    go_ret
    exact ⟨rfl, rfl⟩
  have e6 : (n == 6) = false := by simpa using h6
  have e7 : (n == 17) = false := by simpa using h7
  go_wp2
  go_ret
  exact ⟨by simp [pd, e6, e7], rfl⟩
theorem within_any (n m : Int) (w : World) : Calls Try.prog 122 #[.int .i64 n, .int .i64 m] w fun e w' => e = .returned (.bool (wi n m)) ∧ w = w' := by
  go_enter Try.func122, Try.ntmps122
  by_cases h6 : 0 ≤ n
  · have e6 : decide (0 ≤ n) = true := by simpa using h6
    go_wp2
    go_ret
    exact ⟨by simp [wi, e6], rfl⟩
  have e6 : decide (0 ≤ n) = false := by simpa using h6
  go_wp2
  go_ret
  exact ⟨by simp [wi, e6], rfl⟩

/-- The bit of groups. -/
def mc (s : Int) : Bool := s / 1099511627776 % 2 == 1
theorem and_bit (s : Int) (h0 : 0 ≤ s) (h1 : s < 18446744073709551616) : bits BinOp.and .u64 s 1099511627776 = s / 1099511627776 % 2 * 1099511627776 := by
  obtain ⟨m, rfl⟩ := Int.eq_ofNat_of_zero_le h0
  have e1 : BitVec.ofInt 64 (m : Int) = BitVec.ofNat 64 m := by apply BitVec.eq_of_toNat_eq; simp
  have e2 : BitVec.ofInt 64 1099511627776 = BitVec.ofNat 64 1099511627776 := by rfl
  have e3 : (BitVec.ofNat 64 m &&& BitVec.ofNat 64 1099511627776).toNat = m / 1099511627776 % 2 * 1099511627776 := by
    rw [BitVec.toNat_and, BitVec.toNat_ofNat, BitVec.toNat_ofNat, Nat.mod_eq_of_lt (by omega), Nat.mod_eq_of_lt (by omega)]
    have h : m &&& 2 ^ 40 = if m.testBit 40 then 2 ^ 40 else 0 := by
      apply Nat.eq_of_testBit_eq
      intro i
      rw [Nat.testBit_and, Nat.testBit_two_pow]
      by_cases hi : 40 = i
      · subst hi
        cases hb : m.testBit 40 <;> simp <;> decide
      · cases hb : m.testBit 40
        · simp [hi]
        · simp only [hi, decide_false, Bool.and_false, if_true, Nat.testBit_two_pow]
    rw [show (1099511627776 : Nat) = 2 ^ 40 from rfl, h, Nat.testBit_eq_decide_div_mod_eq]
    have := Nat.mod_two_eq_zero_or_one (m / 2 ^ 40)
    rcases this with h | h <;> simp [h]
  show IntKind.u64.wrap ((BitVec.ofInt 64 (m : Int) &&& BitVec.ofInt 64 1099511627776).toNat : Int) = _
  rw [e1, e2, e3]
  have e4 : IntKind.u64.wrap ((m / 1099511627776 % 2 * 1099511627776 : Nat) : Int) = ((m / 1099511627776 % 2 * 1099511627776 : Nat) : Int) % 18446744073709551616 := by rfl
  rw [e4]
  omega
theorem multi_any (s : Int) (h0 : 0 ≤ s) (h1 : s ≤ 281474976710655) (w : World) : Calls Try.prog 60 #[.int .u64 s] w fun e w' => e = .returned (.bool (mc s)) ∧ w = w' := by
  have hb := and_bit s h0 (by omega)
  have hq : (s / 1099511627776 % 2 * 1099511627776 != 0) = mc s := by
    unfold mc
    have := Int.emod_two_eq (s / 1099511627776)
    rcases this with h | h <;> simp [h]
  go_enter Try.func60, Try.ntmps60
  go_wp2
  go_ret
  exact ⟨by simp [hq], rfl⟩

theorem dcheck (w : World) : Calls Try.prog 112 #[.agg #[]] w fun e w' => e = .returned (.int .i64 0) ∧ Below w.heap.size w w' := by
  go_enter Try.func112, Try.ntmps112
  go_wp2
  go_ret
  exact ⟨rfl, (Below.refl _ w).alloc (Nat.le_refl _) _⟩

/-- What the check of a message says. -/
def ackA (x : FR) : Int := if x.op ≠ 1 ∧ x.op ≠ 2 then 2 else if big x.sm then 2 else if big x.tm then 2 else 0
/-- What the check of a header says. -/
def ackH (x : FR) : Int := if (wi x.tl 255 && wi x.pr 255 && wi x.sp 65535 && wi x.dp 65535) = false then 2 else if pd x.pr = false ∧ (x.sp ≠ 0 ∨ x.dp ≠ 0) then 3 else 0

set_option maxHeartbeats 1000000 in
theorem acheck (x : FR) (w : World) : Calls Try.prog 115 #[.agg x.ac] w fun e w' => e = .returned (.int .i64 (ackA x)) ∧ Below w.heap.size w w' := by
  unfold FR.ac
  obtain ⟨r, hr⟩ : ∃ r, ackA x = r := ⟨_, rfl⟩
  rw [hr]
  have HR := Lib.hid hr
  clear hr
  have HB : Hid (∀ o, Below w.heap.size w (w.alloc o)) := Lib.hid (fun o => (Below.refl _ w).alloc (Nat.le_refl _) _)
  obtain ⟨op, hop⟩ : ∃ op, x.op = op := ⟨_, rfl⟩
  obtain ⟨sm, hsm⟩ : ∃ sm, x.sm = sm := ⟨_, rfl⟩
  obtain ⟨tm, htm⟩ : ∃ tm, x.tm = tm := ⟨_, rfl⟩
  have HE : Hid (ackA x = if op ≠ 1 ∧ op ≠ 2 then 2 else if big sm then 2 else if big tm then 2 else 0) := Lib.hid (by unfold ackA; rw [hop, hsm, htm])
  rw [hop, hsm, htm]
  clear hop hsm htm
  go_enter Try.func115, Try.ntmps115
  have fin : ∀ b1 b2 : Bool, decide (281474976710655 < sm) = b1 → decide (281474976710655 < tm) = b2 → op = 1 ∨ op = 2 → r = if b1 then 2 else if b2 then 2 else 0 := by
    intro b1 b2 h1 h2 h3
    rw [← HR.out, HE.out, if_neg (by omega)]
    unfold big
    rw [h1, h2]
  have HF := Lib.hid fin
  clear fin
  by_cases h1 : op = 1
  · subst h1
    obtain ⟨b1, hb1⟩ : ∃ b, decide (281474976710655 < sm) = b := ⟨_, rfl⟩
    obtain ⟨b2, hb2⟩ : ∃ b, decide (281474976710655 < tm) = b := ⟨_, rfl⟩
    have HG := Lib.hid (HF.out b1 b2 hb1 hb2 (.inl rfl))
    cases b1
    · cases b2
      · go_wp2
        go_ret
        exact ⟨by rw [HG.out]; rfl, HB.out _⟩
      · go_wp2
        go_ret
        exact ⟨by rw [HG.out]; rfl, HB.out _⟩
    · go_wp2
      go_ret
      exact ⟨by rw [HG.out]; rfl, HB.out _⟩
  by_cases h2 : op = 2
  · subst h2
    obtain ⟨b1, hb1⟩ : ∃ b, decide (281474976710655 < sm) = b := ⟨_, rfl⟩
    obtain ⟨b2, hb2⟩ : ∃ b, decide (281474976710655 < tm) = b := ⟨_, rfl⟩
    have HG := Lib.hid (HF.out b1 b2 hb1 hb2 (.inr rfl))
    cases b1
    · cases b2
      · go_wp2
        go_ret
        exact ⟨by rw [HG.out]; rfl, HB.out _⟩
      · go_wp2
        go_ret
        exact ⟨by rw [HG.out]; rfl, HB.out _⟩
    · go_wp2
      go_ret
      exact ⟨by rw [HG.out]; rfl, HB.out _⟩
  have e1 : (op != 1) = true := by simpa using h1
  have e2 : (op != 2) = true := by simpa using h2
  have HG : Hid (r = 2) := Lib.hid (by rw [← HR.out, HE.out, if_pos ⟨h1, h2⟩])
  clear h1 h2
  go_wp2
  go_ret
  exact ⟨by rw [HG.out]; rfl, HB.out _⟩

set_option maxHeartbeats 2000000 in
theorem hcheck (x : FR) (w : World) : Calls Try.prog 119 #[.agg x.hc] w fun e w' => e = .returned (.int .i64 (ackH x)) ∧ Below w.heap.size w w' := by
  unfold FR.hc
  obtain ⟨r, hr⟩ : ∃ r, ackH x = r := ⟨_, rfl⟩
  rw [hr]
  have HR := Lib.hid hr
  clear hr
  have HB : Hid (∀ o, Below w.heap.size w (w.alloc o)) := Lib.hid (fun o => (Below.refl _ w).alloc (Nat.le_refl _) _)
  obtain ⟨tl, htl⟩ : ∃ y, x.tl = y := ⟨_, rfl⟩
  obtain ⟨pr, hpr⟩ : ∃ y, x.pr = y := ⟨_, rfl⟩
  obtain ⟨sp, hsp⟩ : ∃ y, x.sp = y := ⟨_, rfl⟩
  obtain ⟨dp, hdp⟩ : ∃ y, x.dp = y := ⟨_, rfl⟩
  have HE : Hid (ackH x = if (wi tl 255 && wi pr 255 && wi sp 65535 && wi dp 65535) = false then 2 else if pd pr = false ∧ (sp ≠ 0 ∨ dp ≠ 0) then 3 else 0) := Lib.hid (by unfold ackH; rw [htl, hpr, hsp, hdp])
  rw [htl, hpr, hsp, hdp]
  clear htl hpr hsp hdp
  go_enter Try.func119, Try.ntmps119
  obtain ⟨b1, hb1⟩ : ∃ b, wi tl 255 = b := ⟨_, rfl⟩
  obtain ⟨b2, hb2⟩ : ∃ b, wi pr 255 = b := ⟨_, rfl⟩
  obtain ⟨b3, hb3⟩ : ∃ b, wi sp 65535 = b := ⟨_, rfl⟩
  obtain ⟨b4, hb4⟩ : ∃ b, wi dp 65535 = b := ⟨_, rfl⟩
  obtain ⟨b5, hb5⟩ : ∃ b, pd pr = b := ⟨_, rfl⟩
  have HG : Hid (r = if (b1 && b2 && b3 && b4) = false then 2 else if b5 = false ∧ (sp ≠ 0 ∨ dp ≠ 0) then 3 else 0) := Lib.hid (by rw [← HR.out, HE.out, hb1, hb2, hb3, hb4, hb5])
  clear HR HE
  cases b1
  case false =>
    go_wp2_with (first | (go_at_call 122; refine (within_any _ _ _).mono ?_; rintro e w1 ⟨rfl, rfl⟩; try simp only [hb1, hb2, hb3, hb4]))
    go_ret
    exact ⟨by rw [HG.out]; rfl, HB.out _⟩
  cases b2
  case false =>
    go_wp2_with (first | (go_at_call 122; refine (within_any _ _ _).mono ?_; rintro e w1 ⟨rfl, rfl⟩; try simp only [hb1, hb2, hb3, hb4]))
    go_ret
    exact ⟨by rw [HG.out]; rfl, HB.out _⟩
  cases b3
  case false =>
    go_wp2_with (first | (go_at_call 122; refine (within_any _ _ _).mono ?_; rintro e w1 ⟨rfl, rfl⟩; try simp only [hb1, hb2, hb3, hb4]))
    go_ret
    exact ⟨by rw [HG.out]; rfl, HB.out _⟩
  cases b4
  case false =>
    go_wp2_with (first | (go_at_call 122; refine (within_any _ _ _).mono ?_; rintro e w1 ⟨rfl, rfl⟩; try simp only [hb1, hb2, hb3, hb4]))
    go_ret
    exact ⟨by rw [HG.out]; rfl, HB.out _⟩
  cases b5
  case true =>
    go_wp2_with (first | (go_at_call 122; refine (within_any _ _ _).mono ?_; rintro e w1 ⟨rfl, rfl⟩; try simp only [hb1, hb2, hb3, hb4]) | (go_at_call 79; refine (ported_any _ _).mono ?_; rintro e w1 ⟨rfl, rfl⟩; try simp only [hb5]))
    go_ret
    exact ⟨by rw [HG.out]; rfl, HB.out _⟩
  obtain ⟨c1, hc1⟩ : ∃ c, (sp != 0) = c := ⟨_, rfl⟩
  obtain ⟨c2, hc2⟩ : ∃ c, (dp != 0) = c := ⟨_, rfl⟩
  have HG2 : Hid (r = if (c1 || c2) then 3 else 0) := Lib.hid (by
    rw [HG.out, if_neg (by simp)]
    have e1 : sp ≠ 0 ↔ c1 = true := by rw [← hc1]; simp
    have e2 : dp ≠ 0 ↔ c2 = true := by rw [← hc2]; simp
    simp only [e1, e2, Bool.or_eq_true, true_and])
  clear HG
  cases c1
  · cases c2
    · go_wp2_with (first | (go_at_call 122; refine (within_any _ _ _).mono ?_; rintro e w1 ⟨rfl, rfl⟩; try simp only [hb1, hb2, hb3, hb4]) | (go_at_call 79; refine (ported_any _ _).mono ?_; rintro e w1 ⟨rfl, rfl⟩; try simp only [hb5]))
      go_ret
      exact ⟨by rw [HG2.out]; rfl, HB.out _⟩
    · go_wp2_with (first | (go_at_call 122; refine (within_any _ _ _).mono ?_; rintro e w1 ⟨rfl, rfl⟩; try simp only [hb1, hb2, hb3, hb4]) | (go_at_call 79; refine (ported_any _ _).mono ?_; rintro e w1 ⟨rfl, rfl⟩; try simp only [hb5]))
      go_ret
      exact ⟨by rw [HG2.out]; rfl, HB.out _⟩
  · go_wp2_with (first | (go_at_call 122; refine (within_any _ _ _).mono ?_; rintro e w1 ⟨rfl, rfl⟩; try simp only [hb1, hb2, hb3, hb4]) | (go_at_call 79; refine (ported_any _ _).mono ?_; rintro e w1 ⟨rfl, rfl⟩; try simp only [hb5]))
    go_ret
    exact ⟨by rw [HG2.out]; rfl, HB.out _⟩

end Go.Proofs.Ytgdfpmnbofnjfaa

namespace Go.Proofs.Ytgdfpmnbofnjfaa
open Go.RowKit Go.Shelf
set_option linter.unusedVariables false
set_option linter.unusedSimpArgs false
set_option maxRecDepth 100000

/-- Why there is no part. -/
def perr (x : FR) : Int := if x.k < 0 ∨ 2 < x.k then 6 else if (x.k ≠ 1 ∧ x.sameA fr0 = false) ∨ (x.k ≠ 2 ∧ x.sameH fr0 = false) then 3 else 0
/-- The part. -/
def prt (x : FR) : Value := if x.k = 0 then .iface 104 (.agg #[]) else if x.k = 1 then .iface 105 (.agg x.ac) else .iface 106 (.agg x.hc)
def Part (x : FR) (w : World) (e : Ending) (w' : World) : Prop := e = .returned (.tuple #[if perr x = 0 then prt x else Value.nilIface, .int .i64 (perr x)]) ∧ Below w.heap.size w w'

set_option maxHeartbeats 2000000 in
theorem part_no (x : FR) (h : x.k < 0 ∨ 2 < x.k) (w : World) : Calls Try.prog 50 #[.agg x.cs] w (Part x w) := by
  have HG : Hid (perr x = 6) := Lib.hid (by unfold perr; rw [if_pos h])
  have HB : Hid (∀ o, Below w.heap.size w (w.alloc o)) := Lib.hid (fun o => (Below.refl _ w).alloc (Nat.le_refl _) _)
  obtain ⟨k, hk⟩ : ∃ k, x.k = k := ⟨_, rfl⟩
  unfold FR.cs
  rw [hk] at h ⊢
  clear hk
  have e0 : (k == 0) = false := by simp; omega
  have e1 : (k == 1) = false := by simp; omega
  have e2 : (k == 2) = false := by simp; omega
  clear h
  go_enter Try.func50, Try.ntmps50
  go_wp2
  go_ret2
  exact ⟨by rw [HG.out]; rfl, HB.out _⟩

set_option maxHeartbeats 2000000 in
theorem part_0 (x : FR) (h : x.k = 0) (w : World) : Calls Try.prog 50 #[.agg x.cs] w (Part x w) := by
  obtain ⟨bA, hA⟩ : ∃ b, x.sameA fr0 = b := ⟨_, rfl⟩
  obtain ⟨bH, hH⟩ : ∃ b, x.sameH fr0 = b := ⟨_, rfl⟩
  have HG : Hid (perr x = if bA = false ∨ bH = false then 3 else 0) := Lib.hid (by unfold perr; rw [if_neg (by omega), hA, hH, h]; simp)
  have HP : Hid (prt x = .iface 104 (.agg #[])) := Lib.hid (by unfold prt; rw [if_pos h])
  have HB : Hid (∀ o, Below w.heap.size w (w.alloc o)) := Lib.hid (fun o => (Below.refl _ w).alloc (Nat.le_refl _) _)
  have hneqA := neq_ap x fr0
  have hneqH := neq_hp x fr0
  rw [hA] at hneqA
  rw [hH] at hneqH
  simp only [FR.ac, FR.hc, fr0] at hneqA hneqH
  unfold FR.cs
  rw [h]
  clear hA hH h
  go_enter Try.func50, Try.ntmps50
  cases bA
  case false =>
    go_wp2
    go_ret2
    exact ⟨by rw [HG.out]; rfl, HB.out _⟩
  cases bH
  case false =>
    go_wp2
    go_ret2
    exact ⟨by rw [HG.out]; rfl, HB.out _⟩
  go_wp2
  go_ret2
  exact ⟨by rw [HG.out, HP.out]; rfl, HB.out _⟩

theorem same_zA : fr0.sameA fr0 = true := rfl
theorem same_zH : fr0.sameH fr0 = true := rfl
set_option maxHeartbeats 2000000 in
theorem part_1 (x : FR) (h : x.k = 1) (w : World) : Calls Try.prog 50 #[.agg x.cs] w (Part x w) := by
  obtain ⟨bH, hH⟩ : ∃ b, x.sameH fr0 = b := ⟨_, rfl⟩
  have HG : Hid (perr x = if bH = false then 3 else 0) := Lib.hid (by unfold perr; rw [if_neg (by omega), hH, h]; simp)
  have HP : Hid (prt x = .iface 105 (.agg x.ac)) := Lib.hid (by unfold prt; rw [if_neg (by omega), if_pos h])
  have HB : Hid (∀ o, Below w.heap.size w (w.alloc o)) := Lib.hid (fun o => (Below.refl _ w).alloc (Nat.le_refl _) _)
  have hneqA := neq_ap fr0 fr0
  have hneqH := neq_hp x fr0
  rw [same_zA] at hneqA
  rw [hH] at hneqH
  simp only [FR.ac, FR.hc, fr0] at hneqA hneqH
  unfold FR.cs
  rw [h]
  clear hH h
  go_enter Try.func50, Try.ntmps50
  cases bH
  case false =>
    go_wp2
    go_ret2
    exact ⟨by rw [HG.out]; rfl, HB.out _⟩
  go_wp2
  go_ret2
  exact ⟨by rw [HG.out, HP.out]; rfl, HB.out _⟩

set_option maxHeartbeats 2000000 in
theorem part_2 (x : FR) (h : x.k = 2) (w : World) : Calls Try.prog 50 #[.agg x.cs] w (Part x w) := by
  obtain ⟨bA, hA⟩ : ∃ b, x.sameA fr0 = b := ⟨_, rfl⟩
  have HG : Hid (perr x = if bA = false then 3 else 0) := Lib.hid (by unfold perr; rw [if_neg (by omega), hA, h]; simp)
  have HP : Hid (prt x = .iface 106 (.agg x.hc)) := Lib.hid (by unfold prt; rw [if_neg (by omega), if_neg (by omega)])
  have HB : Hid (∀ o, Below w.heap.size w (w.alloc o)) := Lib.hid (fun o => (Below.refl _ w).alloc (Nat.le_refl _) _)
  have hneqA := neq_ap x fr0
  have hneqH := neq_hp fr0 fr0
  rw [same_zH] at hneqH
  rw [hA] at hneqA
  simp only [FR.ac, FR.hc, fr0] at hneqA hneqH
  unfold FR.cs
  rw [h]
  clear hA h
  go_enter Try.func50, Try.ntmps50
  cases bA
  case false =>
    go_wp2
    go_ret2
    exact ⟨by rw [HG.out]; rfl, HB.out _⟩
  go_wp2
  go_ret2
  exact ⟨by rw [HG.out, HP.out]; rfl, HB.out _⟩

theorem part_any (x : FR) (w : World) : Calls Try.prog 50 #[.agg x.cs] w (Part x w) := by
  by_cases h : x.k < 0 ∨ 2 < x.k
  · exact part_no x h w
  have h3 : x.k = 0 ∨ x.k = 1 ∨ x.k = 2 := by omega
  rcases h3 with h | h | h
  · exact part_0 x h w
  · exact part_1 x h w
  · exact part_2 x h w

/-- What Check answers. -/
def fchk (x : FR) : Int := if big x.s = true ∨ big x.d = true then 2 else if mc x.s then 3 else if perr x ≠ 0 then perr x else if x.k = 1 then ackA x else if x.k = 2 then ackH x else 0

theorem meth_dc (n : Nat) (w : World) : (method (n + 1) 104 (.agg #[]) "leafmesh/packet.check").run Try.prog w = .ok (112, .agg #[]) w := by kernel_rfl
theorem meth_ac (c : Array Value) (n : Nat) (w : World) : (method (n + 1) 105 (.agg c) "leafmesh/packet.check").run Try.prog w = .ok (115, .agg c) w := by kernel_rfl
theorem meth_hc (c : Array Value) (n : Nat) (w : World) : (method (n + 1) 106 (.agg c) "leafmesh/packet.check").run Try.prog w = .ok (119, .agg c) w := by kernel_rfl

theorem perr_k {x : FR} (h : perr x = 0) : x.k = 0 ∨ x.k = 1 ∨ x.k = 2 := by
  by_cases h2 : x.k < 0 ∨ 2 < x.k
  · unfold perr at h; rw [if_pos h2] at h; omega
  · omega

set_option maxHeartbeats 4000000 in
theorem check_any (x : FR) (hx : x.ty) (w : World) : Calls Try.prog 31 #[.agg x.cs] w fun e w' => e = .returned (.int .i64 (fchk x)) ∧ Below w.heap.size w w' := by
  have HP : Hid (∀ W : World, Calls Try.prog 50 #[.agg #[.int .u64 x.s, .int .u64 x.d, .int .i64 x.k, .int .i64 x.op, .int .u64 x.sm, .int .u32 x.si, .int .u64 x.tm, .int .u32 x.ti, .int .u32 x.hs, .int .u32 x.hd, .int .i64 x.tl, .int .i64 x.pr, .int .i64 x.sp, .int .i64 x.dp, .int .u64 x.da]] W (Part x W)) := Lib.hid (fun W => part_any x W)
  obtain ⟨r, hr⟩ : ∃ r, fchk x = r := ⟨_, rfl⟩
  rw [hr]
  have HR := Lib.hid hr
  clear hr
  have HB : Hid (∀ o, Below w.heap.size w (w.alloc o)) := Lib.hid (fun o => (Below.refl _ w).alloc (Nat.le_refl _) _)
  have HS := Lib.hid hx.s
  unfold FR.cs
  go_enter Try.func31, Try.ntmps31
  obtain ⟨b1, hb1⟩ : ∃ b, decide (281474976710655 < x.s) = b := ⟨_, rfl⟩
  obtain ⟨b2, hb2⟩ : ∃ b, decide (281474976710655 < x.d) = b := ⟨_, rfl⟩
  have HG : Hid (r = if b1 = true ∨ b2 = true then 2 else if mc x.s then 3 else if perr x ≠ 0 then perr x else if x.k = 1 then ackA x else if x.k = 2 then ackH x else 0) := Lib.hid (by rw [← HR.out]; unfold fchk big; rw [hb1, hb2])
  cases b1
  case true =>
    clear hx
    go_wp2
    go_ret
    exact ⟨by rw [HG.out]; rfl, HB.out _⟩
  cases b2
  case true =>
    clear hx
    go_wp2
    go_ret
    exact ⟨by rw [HG.out]; rfl, HB.out _⟩
  have HSle : Hid (x.s ≤ 281474976710655) := Lib.hid (by have := of_decide_eq_false hb1; omega)
  obtain ⟨b3, hb3⟩ : ∃ b, mc x.s = b := ⟨_, rfl⟩
  have HG2 : Hid (r = if b3 then 3 else if perr x ≠ 0 then perr x else if x.k = 1 then ackA x else if x.k = 2 then ackH x else 0) := Lib.hid (by rw [HG.out, if_neg (by simp), hb3])
  clear HG HR hx
  cases b3
  case true =>
    go_wp2_with (first | (go_at_call 60; refine (multi_any _ HS.out.1 HSle.out _).mono ?_; rintro e w1 ⟨rfl, rfl⟩; try simp only [hb3]))
    go_ret
    exact ⟨by rw [HG2.out]; rfl, HB.out _⟩
  by_cases hp : perr x = 0
  · have h3 := perr_k hp
    have HG3 : Hid (r = if x.k = 1 then ackA x else if x.k = 2 then ackH x else 0) := Lib.hid (by rw [HG2.out, if_neg (by simp), if_neg (by omega)])
    have hprt : (if perr x = 0 then prt x else Value.nilIface) = prt x := if_pos hp
    have HPe := Lib.hid (And.intro hp hprt)
    clear hp hprt HG2
    rcases h3 with h | h | h
    · have HG4 : Hid (r = 0) := Lib.hid (by rw [HG3.out, if_neg (by omega), if_neg (by omega)])
      have HQ : Hid (prt x = .iface 104 (.agg #[])) := Lib.hid (by unfold prt; rw [if_pos h])
      have hme := meth_dc
      clear h HG3
      go_wp2_with (first | (go_at_call 60; refine (multi_any _ HS.out.1 HSle.out _).mono ?_; rintro e w1 ⟨rfl, rfl⟩; try simp only [hb3]) | (go_at_call 50; refine (HP.out _).mono ?_; rintro e w2 ⟨rfl, hb9⟩; rw [HPe.out.2, HPe.out.1, HQ.out]; have HB2 := Lib.hid hb9; clear hb9) | (go_at_call 112; refine (dcheck _).mono ?_; rintro e w3 ⟨rfl, hb8⟩; have HB3 := Lib.hid hb8; clear hb8))
      go_ret
      have h2 := (HB.out _).trans (HB2.out.mono (HB.out _).size)
      exact ⟨by rw [HG4.out]; rfl, h2.trans (HB3.out.mono h2.size)⟩
    · have HG4 : Hid (r = ackA x) := Lib.hid (by rw [HG3.out, if_pos h])
      have HQ : Hid (prt x = .iface 105 (.agg x.ac)) := Lib.hid (by unfold prt; rw [if_neg (by omega), if_pos h])
      have hme := meth_ac x.ac
      clear h HG3
      go_wp2_with (first | (go_at_call 60; refine (multi_any _ HS.out.1 HSle.out _).mono ?_; rintro e w1 ⟨rfl, rfl⟩; try simp only [hb3]) | (go_at_call 50; refine (HP.out _).mono ?_; rintro e w2 ⟨rfl, hb9⟩; rw [HPe.out.2, HPe.out.1, HQ.out]; have HB2 := Lib.hid hb9; clear hb9) | (go_at_call 115; refine (acheck x _).mono ?_; rintro e w3 ⟨rfl, hb8⟩; have HB3 := Lib.hid hb8; clear hb8))
      go_ret
      have h2 := (HB.out _).trans (HB2.out.mono (HB.out _).size)
      exact ⟨by rw [HG4.out]; rfl, h2.trans (HB3.out.mono h2.size)⟩
    · have HG4 : Hid (r = ackH x) := Lib.hid (by rw [HG3.out, if_neg (by omega), if_pos h])
      have HQ : Hid (prt x = .iface 106 (.agg x.hc)) := Lib.hid (by unfold prt; rw [if_neg (by omega), if_neg (by omega)])
      have hme := meth_hc x.hc
      clear h HG3
      go_wp2_with (first | (go_at_call 60; refine (multi_any _ HS.out.1 HSle.out _).mono ?_; rintro e w1 ⟨rfl, rfl⟩; try simp only [hb3]) | (go_at_call 50; refine (HP.out _).mono ?_; rintro e w2 ⟨rfl, hb9⟩; rw [HPe.out.2, HPe.out.1, HQ.out]; have HB2 := Lib.hid hb9; clear hb9) | (go_at_call 119; refine (hcheck x _).mono ?_; rintro e w3 ⟨rfl, hb8⟩; have HB3 := Lib.hid hb8; clear hb8))
      go_ret
      have h2 := (HB.out _).trans (HB2.out.mono (HB.out _).size)
      exact ⟨by rw [HG4.out]; rfl, h2.trans (HB3.out.mono h2.size)⟩
  · have HG3 : Hid (r = perr x) := Lib.hid (by rw [HG2.out, if_neg (by simp), if_pos hp])
    obtain ⟨er, her⟩ : ∃ er, perr x = er := ⟨_, rfl⟩
    have hprt : (if perr x = 0 then prt x else Value.nilIface) = Value.nilIface := if_neg hp
    have hne : (er != 0) = true := by rw [← her]; simpa using hp
    have HPe := Lib.hid (And.intro her hprt)
    clear hp hprt HG2 her
    go_wp2_with (first | (go_at_call 60; refine (multi_any _ HS.out.1 HSle.out _).mono ?_; rintro e w1 ⟨rfl, rfl⟩; try simp only [hb3]) | (go_at_call 50; refine (HP.out _).mono ?_; rintro e w2 ⟨rfl, hb9⟩; rw [HPe.out.2, HPe.out.1]; have HB2 := Lib.hid hb9; clear hb9))
    go_ret
    exact ⟨by rw [HG3.out, HPe.out.1]; rfl, (HB.out _).trans (HB2.out.mono (HB.out _).size)⟩

end Go.Proofs.Ytgdfpmnbofnjfaa

namespace Go.Proofs.Ytgdfpmnbofnjfaa
open Go.RowKit Go.Shelf
set_option linter.unusedVariables false
set_option linter.unusedSimpArgs false

attribute [local go_sem] Oper.semAt_some

/-- The 16-bit numbers of some bytes. -/
def nums : List Int → List Int
  | [] => []
  | [a] => [a * 256]
  | a :: b :: r => (a * 256 + b) :: nums r
theorem nums_len : ∀ bs : List Int, (nums bs).length ≤ bs.length
  | [] => Nat.le_refl _
  | [a] => Nat.le_refl _
  | a :: b :: r => by
    have := nums_len r
    simp only [nums, List.length_cons]
    omega
theorem nums_step {bs : List Int} {k : Nat} (hk : k + 1 < bs.length) : nums (bs.drop k) = (bs[k] * 256 + bs[k + 1]) :: nums (bs.drop (k + 2)) := by
  rw [List.drop_eq_getElem_cons (by omega : k < bs.length), List.drop_eq_getElem_cons (by omega : k + 1 < bs.length)]
  rfl
theorem nums_last {bs : List Int} {k : Nat} (hk : k + 1 = bs.length) : nums (bs.drop k) = (bs[k] * 256) :: nums (bs.drop (k + 2)) := by
  rw [List.drop_eq_getElem_cons (by omega : k < bs.length), List.drop_eq_nil_of_le (by omega), List.drop_eq_nil_of_le (by omega)]
  rfl

/-- A 16-bit number. -/
abbrev N16 : Type := { n : Int // 0 ≤ n ∧ n ≤ 65535 }
def n16E : N16 → Array Value := fun x => #[.int .u16 x.1]
/-- One more number of the sum. -/
def stp (s n : Int) : Int := (s + n) % 65536 + (s + n) / 65536
def sacc (l : List Int) : Int := l.foldl stp 0
theorem stp_le {s n : Int} (h0 : 0 ≤ s) (h1 : s ≤ 65535) (h2 : 0 ≤ n) (h3 : n ≤ 65535) : 0 ≤ stp s n ∧ stp s n ≤ 65535 := by unfold stp; omega
theorem sacc_snoc (l : List Int) (n : Int) : sacc (l ++ [n]) = stp (sacc l) n := by simp [sacc]
theorem sacc_le (l : List N16) : 0 ≤ sacc (l.map (·.1)) ∧ sacc (l.map (·.1)) ≤ 65535 := by
  have key : ∀ (l : List N16) (s : Int), 0 ≤ s ∧ s ≤ 65535 → 0 ≤ (l.map (·.1)).foldl stp s ∧ (l.map (·.1)).foldl stp s ≤ 65535 := by
    intro l
    induction l with
    | nil => exact fun s h => h
    | cons x l ih => exact fun s h => ih _ (stp_le h.1 h.2 x.2.1 x.2.2)
  exact key l 0 (by omega)
/-- The checksum. -/
def sumP (bs : List Int) : Int := 65535 - sacc (nums bs)

theorem or_byte16 (n b : Int) (h0 : 0 ≤ n) (h1 : n ≤ 255) (b0 : 0 ≤ b) (b1 : b ≤ 255) : bits BinOp.or .u16 (n * 256) b = n * 256 + b := by
  obtain ⟨m, rfl⟩ := Int.eq_ofNat_of_zero_le h0
  obtain ⟨c, rfl⟩ := Int.eq_ofNat_of_zero_le b0
  have e1 : BitVec.ofInt 16 ((m : Int) * 256) = BitVec.ofNat 16 (m * 256) := by apply BitVec.eq_of_toNat_eq; simp; omega
  have e2 : BitVec.ofInt 16 (c : Int) = BitVec.ofNat 16 c := by apply BitVec.eq_of_toNat_eq; simp
  have e3 : (BitVec.ofNat 16 (m * 256) ||| BitVec.ofNat 16 c).toNat = m * 256 + c := by
    rw [BitVec.toNat_or, BitVec.toNat_ofNat, BitVec.toNat_ofNat, Nat.mod_eq_of_lt (by omega), Nat.mod_eq_of_lt (by omega)]
    have := Nat.shiftLeft_add_eq_or_of_lt (i := 8) (b := c) (by omega) m
    rw [Nat.shiftLeft_eq] at this
    exact this.symm
  show IntKind.u16.wrap ((BitVec.ofInt 16 ((m : Int) * 256) ||| BitVec.ofInt 16 (c : Int)).toNat : Int) = _
  rw [e1, e2, e3]
  have e4 : IntKind.u16.wrap ((m * 256 + c : Nat) : Int) = ((m * 256 + c : Nat) : Int) % 65536 := by rfl
  rw [e4]
  omega
theorem and_low (s : Int) (h0 : 0 ≤ s) (h1 : s < 4294967296) : bits BinOp.and .u32 s 65535 = s % 65536 := by
  obtain ⟨m, rfl⟩ := Int.eq_ofNat_of_zero_le h0
  have e1 : BitVec.ofInt 32 (m : Int) = BitVec.ofNat 32 m := by apply BitVec.eq_of_toNat_eq; simp
  have e2 : BitVec.ofInt 32 65535 = BitVec.ofNat 32 65535 := by rfl
  have e3 : (BitVec.ofNat 32 m &&& BitVec.ofNat 32 65535).toNat = m % 65536 := by
    rw [BitVec.toNat_and, BitVec.toNat_ofNat, BitVec.toNat_ofNat, Nat.mod_eq_of_lt (by omega), Nat.mod_eq_of_lt (by omega)]
    exact Nat.and_two_pow_sub_one_eq_mod m 16
  show IntKind.u32.wrap ((BitVec.ofInt 32 (m : Int) &&& BitVec.ofInt 32 65535).toNat : Int) = _
  rw [e1, e2, e3]
  have e4 : IntKind.u32.wrap ((m % 65536 : Nat) : Int) = ((m % 65536 : Nat) : Int) % 4294967296 := by rfl
  rw [e4]
  omega

theorem numbers_in (F : Fence) (n : Nat) (hf : F.fn 89) (hro : F.round = none) (v : Value) (A : Option Addr) (len cap : Nat) (hv : v = .slice A len cap) (w : World) :
    CallsIn F n Try.prog 89 #[v] w fun en w' => en = .returned (.func (.func 93) #[] #[.pointer (some ⟨w.heap.size, 0, none⟩)]) ∧ w' = w.alloc (.cells #[v] 40) := by
  subst hv
  refine callsIn_of_wp Try.func89 rfl hf ?_ hro
  simp only [Try.ntmps89, List.size_toArray, List.length_cons, List.length_nil, Nat.reduceAdd, Nat.reduceSub, Array.replicate_succ, Array.replicate_zero, List.push_toArray, List.append_toArray, List.nil_append, List.cons_append]
  gi_wp2
  go_ret
  exact ⟨rfl, rfl⟩

/-- What a round keeps: what lay below, and the iterator's own box. -/
def Keep2 (n₀ Bs : Nat) (W W' : World) : Prop := Below n₀ W W' ∧ W'.heap[Bs]? = W.heap[Bs]?
theorem Keep2.refl (n₀ Bs : Nat) (W : World) : Keep2 n₀ Bs W W := ⟨Below.refl _ _, rfl⟩
theorem Keep2.trans {n₀ Bs : Nat} {A B C : World} (h : Keep2 n₀ Bs A B) (k : Keep2 n₀ Bs B C) : Keep2 n₀ Bs A C := ⟨h.1.trans k.1, k.2.trans h.2⟩

set_option maxRecDepth 100000 in
set_option maxHeartbeats 2000000 in
theorem numbers1_in (F : Fence) (n : Nat) (hf : F.fn 93) (hro : F.round = none) (hn : 1 ≤ n) (l Bs n₀ : Nat) (b o cap : Nat) (bs : List Int) (hm : bs.length ≤ 1000000) (hb : b < n₀) (hby : ∀ v ∈ bs, 0 ≤ v ∧ v ≤ 255) (J Jx : List N16 → World → Prop)
    (hY : ∀ pre x W, J pre W → pre.length < bs.length → YieldAt F (n - 1) Try.prog l (n16E x) W fun e W' =>
      (e = .returned (.bool true) ∧ J (pre ++ [x]) W' ∧ Keep2 n₀ Bs W W') ∨ (e = .returned (.bool false) ∧ Jx (pre ++ [x]) W'))
    (W : World) (hc0 : W.cell? ⟨Bs, 0, none⟩ = some (.slice (some ⟨b, o, none⟩) bs.length cap)) (hsl : Sl W b o bs) (h0 : J [] W) :
    CallsIn F n Try.prog 93 #[.func (.yield l) #[] #[], .pointer (some ⟨Bs, 0, none⟩)] W fun en W' => (∃ v, en = .returned v) ∧
      ((∃ ys : List N16, ys.map (·.1) = nums bs ∧ J ys W') ∨ (∃ pre : List N16, (pre.map (·.1) <+: nums bs) ∧ Jx pre W')) := by
  refine callsIn_of_wp Try.func93 rfl hf ?_ hro
  simp only [Try.ntmps93, List.size_toArray, List.length_cons, List.length_nil, Nat.reduceAdd, Nat.reduceSub, Array.replicate_succ, Array.replicate_zero, List.push_toArray, List.append_toArray, List.nil_append, List.cons_append]
  have hpl := nums_len bs
  have HSl := Lib.hid hsl
  clear hsl
  gi_wp2
  gi_loopw [3] (fun iv wr => ∃ (k : Nat) (pre : List N16), k ≤ bs.length + 1 ∧ iv = .int .i64 k ∧ pre.map (·.1) ++ nums (bs.drop k) = nums bs ∧ J pre wr ∧ Keep2 n₀ Bs W wr)
    (fun iv _ => bs.length + 1 - (intOf iv).toNat)
  case atStart => exact ⟨0, [], Nat.zero_le _, rfl, rfl, h0, Keep2.refl _ _ _⟩
  case round =>
    obtain ⟨k, pre, hk, rfl, hpre, hJs, hnx⟩ := hrel
    have c0 : wr.cell? ⟨Bs, 0, none⟩ = some (.slice (some ⟨b, o, none⟩) bs.length cap) := (World.cell?_of_block (a := ⟨Bs, 0, none⟩) hnx.2).trans hc0
    by_cases hlt : k < bs.length
    · have hbd := hby bs[k] (List.getElem_mem _)
      have hcell := (hnx.1.cell (p := ⟨b, o + k, none⟩) hb).trans (HSl.out k hlt)
      by_cases h2 : k + 1 < bs.length
      · have hst := nums_step h2
        have hplen : pre.length < bs.length := by
          have h1 := congrArg List.length hpre
          rw [hst] at h1
          simp at h1
          omega
        have hbd2 := hby bs[k + 1] (List.getElem_mem _)
        have hcell2 := (hnx.1.cell (p := ⟨b, o + (k + 1), none⟩) hb).trans (HSl.out (k + 1) h2)
        obtain ⟨x, hx9⟩ : ∃ x, bs[k] = x := ⟨_, rfl⟩
        obtain ⟨y, hy9⟩ : ∃ y, bs[k + 1] = y := ⟨_, rfl⟩
        rw [hx9] at hbd hcell
        rw [hy9] at hbd2 hcell2
        rw [hx9, hy9] at hst
        obtain ⟨hx0, hx1⟩ := hbd
        obtain ⟨hy0, hy1⟩ := hbd2
        obtain ⟨fn, tmps, assign, body, hy, hR⟩ := hY _ ⟨x * 256 + y, by omega⟩ wr hJs hplen
        dsimp only [n16E] at hy
        have hor := or_byte16 x y hx0 hx1 hy0 hy1
        have hnext : (pre ++ [(⟨x * 256 + y, by omega⟩ : N16)]).map (·.1) ++ nums (bs.drop (k + 2)) = nums bs := by
          rw [← hpre, hst]
          simp
        have HNext := Lib.hid hnext
        have e1 : (k : Int) < (bs.length : Int) := by omega
        have e2 : (k : Int) + 1 < (bs.length : Int) := by omega
        clear hnext hpre hst hx9 hy9
        gi_wp2
        refine hR.mono ?_
        rintro e W3 (⟨rfl, hJ3, hk3⟩ | ⟨rfl, hJx3⟩)
        · gi_wp2
          go_roundw
          case rel => exact ⟨k + 2, pre ++ [⟨x * 256 + y, by omega⟩], by omega, by first | rfl | (congr 1; omega) | (simp; done), HNext.out, hJ3, hnx.trans hk3⟩
          case measure => simp [intOf]; omega
        · gi_wp2
          refine bodyPost_ret (results_none rfl _ _ _) rfl ?_
          exact ⟨⟨_, rfl⟩, .inr ⟨pre ++ [⟨x * 256 + y, by omega⟩], ⟨_, HNext.out⟩, hJx3⟩⟩
      · have hk1 : k + 1 = bs.length := by omega
        have hst := nums_last hk1
        have hplen : pre.length < bs.length := by
          have h1 := congrArg List.length hpre
          rw [hst] at h1
          simp at h1
          omega
        obtain ⟨x, hx9⟩ : ∃ x, bs[k] = x := ⟨_, rfl⟩
        rw [hx9] at hbd hcell hst
        obtain ⟨hx0, hx1⟩ := hbd
        obtain ⟨fn, tmps, assign, body, hy, hR⟩ := hY _ ⟨x * 256, by omega⟩ wr hJs hplen
        dsimp only [n16E] at hy
        have hnext : (pre ++ [(⟨x * 256, by omega⟩ : N16)]).map (·.1) ++ nums (bs.drop (k + 2)) = nums bs := by
          rw [← hpre, hst]
          simp
        have HNext := Lib.hid hnext
        clear hnext hpre hst hx9
        gi_wp2
        refine hR.mono ?_
        rintro e W3 (⟨rfl, hJ3, hk3⟩ | ⟨rfl, hJx3⟩)
        · gi_wp2
          go_roundw
          case rel => exact ⟨k + 2, pre ++ [⟨x * 256, by omega⟩], by omega, by first | rfl | (congr 1; omega) | (simp; done), HNext.out, hJ3, hnx.trans hk3⟩
          case measure => simp [intOf]; omega
        · gi_wp2
          refine bodyPost_ret (results_none rfl _ _ _) rfl ?_
          exact ⟨⟨_, rfl⟩, .inr ⟨pre ++ [⟨x * 256, by omega⟩], ⟨_, HNext.out⟩, hJx3⟩⟩
    · have hp0 : pre.map (·.1) = nums bs := by rw [← hpre, List.drop_eq_nil_of_le (by omega), show nums [] = [] from rfl, List.append_nil]
      gi_wp2
      go_end0
      exact ⟨⟨_, rfl⟩, .inl ⟨_, hp0, hJs⟩⟩

set_option maxRecDepth 100000 in
/-- No bytes: no round. -/
theorem numbers1_none (F : Fence) (n : Nat) (hf : F.fn 93) (hro : F.round = none) (l Bs : Nat) (A : Option Addr) (cap : Nat) (J : List N16 → World → Prop) (W : World) (hc0 : W.cell? ⟨Bs, 0, none⟩ = some (.slice A 0 cap)) (h0 : J [] W) :
    CallsIn F n Try.prog 93 #[.func (.yield l) #[] #[], .pointer (some ⟨Bs, 0, none⟩)] W fun en W' => (∃ v, en = .returned v) ∧ J [] W' := by
  refine callsIn_of_wp Try.func93 rfl hf ?_ hro
  simp only [Try.ntmps93, List.size_toArray, List.length_cons, List.length_nil, Nat.reduceAdd, Nat.reduceSub, Array.replicate_succ, Array.replicate_zero, List.push_toArray, List.append_toArray, List.nil_append, List.cons_append]
  gi_wp2
  gi_loopw [3] (fun iv wr => iv = .int .i64 0 ∧ J [] wr ∧ wr.cell? ⟨Bs, 0, none⟩ = some (.slice A 0 cap)) (fun _ _ => 0)
  case atStart => exact ⟨rfl, h0, hc0⟩
  case round =>
    obtain ⟨rfl, hJs, hc⟩ := hrel
    gi_wp2
    go_end0
    exact ⟨⟨_, rfl⟩, hJs⟩

/-- The iterator over the numbers of some bytes. -/
theorem numbers_stops (F : Fence) (n : Nat) (hf : F.fn 93) (hro : F.round = none) (hn : 1 ≤ n) (Bs n₀ : Nat) (b o cap : Nat) (bs : List Int) (hm : bs.length ≤ 1000000) (hb : b < n₀) (hby : ∀ v ∈ bs, 0 ≤ v ∧ v ≤ 255) (w : World) (hn0 : n₀ ≤ w.heap.size) (hBs : Bs < w.heap.size)
    (hc0 : w.cell? ⟨Bs, 0, none⟩ = some (.slice (some ⟨b, o, none⟩) bs.length cap)) (hsl : Sl w b o bs) :
    SeqStopsK F n Try.prog 93 #[.pointer (some ⟨Bs, 0, none⟩)] n16E (Keep2 n₀ Bs) (fun ys => ys.map (·.1) = nums bs) (fun pre => pre.map (·.1) <+: nums bs) bs.length w := fun l J Jx W hW _ _ hY h0 =>
  numbers1_in F n hf hro hn l Bs n₀ b o cap bs hm hb hby J Jx hY W ((hW.cell (p := ⟨Bs, 0, none⟩) (by show Bs < _; omega)).trans hc0) (fun j hj => (hW.cell (p := ⟨b, o + j, none⟩) (by show b < _; omega)).trans (hsl j hj)) h0
theorem numbers_stops_none (F : Fence) (n : Nat) (hf : F.fn 93) (hro : F.round = none) (Bs n₀ : Nat) (A : Option Addr) (cap : Nat) (w : World) (hBs : Bs < w.heap.size) (hc0 : w.cell? ⟨Bs, 0, none⟩ = some (.slice A 0 cap)) :
    SeqStopsK F n Try.prog 93 #[.pointer (some ⟨Bs, 0, none⟩)] n16E (Keep2 n₀ Bs) (fun ys => ys.map (·.1) = nums []) (fun pre => pre.map (·.1) <+: nums []) 0 w := fun l J Jx W hW _ _ hY h0 =>
  (numbers1_none F n hf hro l Bs A cap J W ((hW.cell (p := ⟨Bs, 0, none⟩) hBs).trans hc0) h0).mono fun e W' ⟨he, hj⟩ => ⟨he, .inl ⟨[], rfl, hj⟩⟩

end Go.Proofs.Ytgdfpmnbofnjfaa

namespace Go.Proofs.Ytgdfpmnbofnjfaa
open Go.RowKit Go.Shelf
set_option linter.unusedVariables false
set_option linter.unusedSimpArgs false

attribute [local go_sem] Oper.semAt_some

theorem Has.kept {X Y : World} {row : Option Nat} {g : Nat} {t : TypeId} {cs : Array Value} (h : Has X g t cs) (hg : X.grownBy Y row) (hrow : ∀ r, row = some r → ∃ o : Obj, X.heap[r]? = some o ∧ o.isCells = false) : Has Y g t cs :=
  h.grown hg (fun e => by
    obtain ⟨o, ho, hc⟩ := hrow g e.symm
    rw [show X.heap[g]? = _ from h] at ho
    cases ho
    cases hc)
theorem keepsFrom_below {B : Nat} {W W' : World} (hb : Below W.heap.size W W') : KeepsFrom B W W' :=
  ⟨hb.size, fun k o _ hk _ => (hb.block k (Array.getElem?_eq_some_iff.1 hk).1).trans hk⟩

/-- Between two rounds. -/
structure SI (w0 : World) (bx : Value) (s : Int) (W : World) : Prop where
  acc : Has W w0.heap.size 23 #[.int .u32 s]
  bb : Has W (w0.heap.size + 1) 40 #[bx]
theorem si_own (w0 : World) (bx : Value) : Own (fun (pre : List N16) W => SI w0 bx (sacc (pre.map (·.1))) W) := fun s X Y row hs hg hr =>
  ⟨hs.acc.kept hg hr, hs.bb.kept hg hr⟩
def IS (w : World) (bx : Value) (pre : List N16) (W : World) : Prop := SI w bx (sacc (pre.map (·.1))) W ∧ Below w.heap.size w W
theorem is_own (w : World) (bx : Value) {B : Nat} (hB : w.heap.size ≤ B) : OwnFrom B (IS w bx) := OwnFrom.and (Own.from (si_own w bx) _) (ownFrom_below (Nat.le_refl _) hB)
theorem si_start (w0 : World) (bx : Value) : SI w0 bx 0 ((w0.alloc (.cells #[.int .u32 0] 23)).alloc (.cells #[bx] 40)) := by
  have a1 := Has.new w0 23 #[.int .u32 0]
  have a2 := Has.new (w0.alloc (.cells #[.int .u32 0] 23)) 40 #[bx]
  have up : ∀ {w : World} {g : Nat} {t : TypeId} {cs : Array Value} (o : Obj), Has w g t cs → Has (w.alloc o) g t cs := fun o h => h.below ((Below.refl _ _).alloc (Nat.le_refl _) _)
  simp only [World.size_alloc] at a2
  exact ⟨up _ a1, a2⟩
theorem xor16 (s : Int) (h0 : 0 ≤ s) (h1 : s ≤ 65535) : bits BinOp.xor .u16 IntKind.u16.max s = 65535 - s := by
  obtain ⟨m, rfl⟩ := Int.eq_ofNat_of_zero_le h0
  have hm : m < 2 ^ 16 := by omega
  have e1 : BitVec.ofInt 16 IntKind.u16.max = BitVec.allOnes 16 := by rfl
  have e2 : BitVec.ofInt 16 (m : Int) = BitVec.ofNat 16 m := by apply BitVec.eq_of_toNat_eq; simp
  have e3 : (BitVec.allOnes 16 ^^^ BitVec.ofNat 16 m).toNat = 65535 - m := by
    rw [BitVec.allOnes_xor, BitVec.toNat_not, BitVec.toNat_ofNat, Nat.mod_eq_of_lt hm]
  show IntKind.u16.wrap ((BitVec.ofInt 16 IntKind.u16.max ^^^ BitVec.ofInt 16 (m : Int)).toNat : Int) = _
  rw [e1, e2, e3]
  have e4 : IntKind.u16.wrap ((65535 - m : Nat) : Int) = ((65535 - m : Nat) : Int) % 65536 := by rfl
  rw [e4]
  omega

set_option maxRecDepth 100000 in
set_option maxHeartbeats 2000000 in
theorem sum_b (bs : List Int) (b o cap : Nat) (A : Option Addr) (hA : 0 < bs.length → A = some ⟨b, o, none⟩) (hm : bs.length ≤ 1000000) (hby : ∀ v ∈ bs, 0 ≤ v ∧ v ≤ 255) (w : World) (hb : 0 < bs.length → b < w.heap.size) (hsl : 0 < bs.length → Sl w b o bs) :
    Calls Try.prog 75 #[.slice A bs.length cap] w fun e w' => e = .returned (.int .u16 (sumP bs)) ∧ Below w.heap.size w w' := by
  obtain ⟨W0, hW0⟩ : ∃ W0, ((w.alloc (.cells #[.int .u32 0] 23)).alloc (.cells #[.slice A bs.length cap] 40)) = W0 := ⟨_, rfl⟩
  have hR0 : SI w (.slice A bs.length cap) 0 W0 := hW0 ▸ si_start w _
  have hB0 : Below w.heap.size w W0 := by
    rw [← hW0]
    exact (((Below.refl _ w).alloc (Nat.le_refl _) _).alloc (by simp) _)
  have hsz : W0.heap.size = w.heap.size + 2 := by rw [← hW0]; simp
  refine (callsIn_wide (n := 4)).1 ?_
  have h1 : 1 ≤ 4 := by omega
  refine callsIn_of_wp_marks Try.func75 rfl trivial ?_ rfl
  simp only [Try.ntmps75, List.size_toArray, List.length_cons, List.length_nil, Nat.reduceAdd, Nat.reduceSub, Array.replicate_succ, Array.replicate_zero, List.push_toArray, List.append_toArray, List.nil_append, List.cons_append]
  gi_wp2_with fail
  refine ⟨trivial, ?_⟩
  refine (numbers_in Fence.wide 3 trivial rfl _ A bs.length cap rfl _).mono ?_
  rintro e w' ⟨rfl, rfl⟩
  rw [hW0]
  gi_wp2_with fail
  have hst : SeqStopsK Fence.wide (4 - 1) Try.prog 93 #[.pointer (some ⟨w.heap.size + 1, 0, none⟩)] n16E (Keep2 w.heap.size (w.heap.size + 1)) (fun ys => ys.map (·.1) = nums bs) (fun pre => pre.map (·.1) <+: nums bs) bs.length W0 := by
    by_cases h0 : 0 < bs.length
    · exact numbers_stops Fence.wide 3 trivial rfl (by omega) (w.heap.size + 1) w.heap.size b o cap bs hm (hb h0) hby W0 (by omega) (by omega) (by rw [← hA h0]; exact hR0.bb.cell 0) ((hsl h0).below hB0)
    · obtain rfl : bs = [] := List.eq_nil_of_length_eq_zero (by omega)
      exact numbers_stops_none Fence.wide 3 trivial rfl (w.heap.size + 1) w.heap.size A cap W0 (by omega) (hR0.bb.cell 0)
  refine wpIn_rangeFunc_ownG rfl h1 (gf := 93) (lb := #[.pointer (some ⟨w.heap.size + 1, 0, none⟩)]) rfl trivial (enters_of Try.func93 (by kernel_rfl) rfl)
    hst (fun h k => h.trans k) (fun W l o o' hl h hc hw => ⟨belowK_b (w := W0) (by omega) W l o o' hl h hc hw, (grownBy_putObj' W l o').block _ (by have := (Array.getElem?_eq_some_iff.1 h).1; omega) (by intro h9; injection h9 with h9; omega)⟩) (Below.refl _ _) (fun _ => rfl)
    (IS w (.slice A bs.length cap)) (fun _ _ _ => False) (is_own w _ (by omega)) (fun c => fun _ _ _ _ h _ _ => h)
    ⟨hR0, hB0⟩
    (fun x => { tmps := #[.slice A bs.length cap, undef, .int .u16 0, .pointer (some ⟨w.heap.size, 0, none⟩), .int .u16 x.1, .slice A bs.length cap, .func (.func 93) #[] #[.pointer (some ⟨w.heap.size + 1, 0, none⟩)], .int .u16 x.1, undef, undef, undef, undef, undef, undef, undef, undef, undef, undef, undef, undef], defers := [] }) ?assign ?body ?done ?stop
  case assign =>
    intro l x W K hK
    simp only [n16E]
    gi_wp2
    exact hK
  case body =>
    rintro l pre x W ⟨hSI, hB⟩ hlen
    clear hA
    have hle := sacc_le pre
    obtain ⟨s, hs⟩ : ∃ s, sacc (pre.map (·.1)) = s := ⟨_, rfl⟩
    rw [hs] at hle hSI
    have HS := Lib.hid hs
    obtain ⟨hs0, hs1⟩ := hle
    obtain ⟨n, hn0, hn1⟩ := x
    have ca := hSI.acc.cell 0
    have fa := hSI.acc.free 0
    have hand := and_low (s + n) (by omega) (by omega)
    have HSI := Lib.hid hSI
    have HB := Lib.hid hB
    clear hs hSI hB hst hR0 hB0 hW0
    dsimp only
    gi_wp2_with fail
    have hb3 : Below w.heap.size W ((W.setCell ⟨w.heap.size, 0, none⟩ (.int .u32 (s + n))).setCell ⟨w.heap.size, 0, none⟩ (.int .u32 ((s + n) % 65536 + (s + n) / 65536))) :=
      ((Below.refl _ W).setCell (p := ⟨w.heap.size, 0, none⟩) (Nat.le_refl _) _).setCell (p := ⟨w.heap.size, 0, none⟩) (Nat.le_refl _) _
    have q1 := (HSI.out.acc.set_ 0 (.int .u32 (s + n))).set_ 0 (.int .u32 ((s + n) % 65536 + (s + n) / 65536))
    have q2 : ((W.setCell ⟨w.heap.size, 0, none⟩ (.int .u32 (s + n))).setCell ⟨w.heap.size, 0, none⟩ (.int .u32 ((s + n) % 65536 + (s + n) / 65536))).heap[w.heap.size + 1]? = W.heap[w.heap.size + 1]? :=
      (Below.heap_setCell _ _ _ _ (by show w.heap.size + 1 ≠ w.heap.size; omega)).trans (Below.heap_setCell _ _ _ _ (by show w.heap.size + 1 ≠ w.heap.size; omega))
    have hst2 : sacc ((pre ++ [(⟨n, hn0, hn1⟩ : N16)]).map (·.1)) = (s + n) % 65536 + (s + n) / 65536 := by
      rw [List.map_append, List.map_cons, List.map_nil, sacc_snoc, HS.out]
      rfl
    refine ⟨((KeepsOthers.setCell _ _ _).trans (KeepsOthers.setCell _ _ _)).from _, ⟨hb3, q2⟩, ⟨?_, ?_⟩, HB.out.trans hb3⟩
    · rw [hst2]; exact q1
    · exact (show _ = _ from q2).trans HSI.out.bb
  case done =>
    rintro D ys W hD hys ⟨hSI, hB⟩ hK
    clear hA
    have hle := sacc_le ys
    have HR : Hid (sumP bs = 65535 - sacc (ys.map (·.1))) := Lib.hid (by rw [hys]; rfl)
    obtain ⟨s, hs⟩ : ∃ s, sacc (ys.map (·.1)) = s := ⟨_, rfl⟩
    rw [hs] at hle hSI HR
    obtain ⟨hs0, hs1⟩ := hle
    have ca := hSI.acc.cell 0
    have HB := Lib.hid hB
    have HK := Lib.hid hK
    clear hs hSI hB hst hR0 hB0 hW0 hK hys
    have hx := xor16 s hs0 hs1
    gi_wp2_with fail
    all_goals first | (rename_i h9; exact absurd h9 (by decide)) | skip
    have HX := Lib.hid hx
    refine ⟨by simp, .inl ⟨_, _, rfl, run_takeDeferred HK.out, ?_⟩⟩
    refine ⟨.int .u16 (65535 - s), ?_, ?_⟩
    · first | kernel_rfl | rfl
    · exact ⟨by rw [HR.out], HB.out.trans (belowK_b (w := w) (Nat.le_refl _) W D _ _ (by omega) HK.out rfl rfl)⟩
  case stop =>
    rintro D c pre W hD hSp h hK
    exact h.elim

theorem sum_arr (v : Value) (bs : List Int) (w : World) (h : Arr w v bs) (hm : bs.length ≤ 1000000) (hby : ∀ v ∈ bs, 0 ≤ v ∧ v ≤ 255) :
    Calls Try.prog 75 #[v] w fun e w' => e = .returned (.int .u16 (sumP bs)) ∧ Below w.heap.size w w' := by
  rcases h with ⟨rfl, rfl⟩ | ⟨ad, c, rfl, h2⟩
  · exact sum_b [] 0 0 0 none (fun h => by simp at h) (by simp) (by simp) w (fun h => by simp at h) (fun h => by simp at h)
  · by_cases h0 : 0 < bs.length
    · obtain ⟨b, o, rfl, hs⟩ := h2.plain h0
      exact sum_b bs b o c _ (fun _ => rfl) hm hby w (fun _ => cell_block (hs 0 h0)) (fun _ => hs)
    · exact sum_b bs 0 0 c _ (fun h => absurd h h0) hm hby w (fun h => absurd h h0) (fun h => absurd h h0)

end Go.Proofs.Ytgdfpmnbofnjfaa
