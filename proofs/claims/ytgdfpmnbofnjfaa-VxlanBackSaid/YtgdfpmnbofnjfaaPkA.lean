/- Frames: their cells, comparing, a frame as an argument. -/
import Derived.Test.YtgdfpmnbofnjfaaOpn
import Derived.Laws.Rows
import Derived.Laws.StructEq
import Derived.Deep.MidRow
import Derived.ProofKit
import Derived.OpenShut
namespace Go.Proofs.Ytgdfpmnbofnjfaa
open Go.ChangeShapes Go.WideShapes Go.ChangeAt Go.RowKit
set_option linter.unusedVariables false
set_option linter.unusedSimpArgs false
set_option maxRecDepth 100000

/-- A frame. -/
structure FR where
  s : Int
  d : Int
  k : Int
  op : Int
  sm : Int
  si : Int
  tm : Int
  ti : Int
  hs : Int
  hd : Int
  tl : Int
  pr : Int
  sp : Int
  dp : Int
  da : Int

/-- The cells of a frame, of its message and of its header. -/
def FR.cs (x : FR) : Array Value := #[.int .u64 x.s, .int .u64 x.d, .int .i64 x.k, .int .i64 x.op, .int .u64 x.sm, .int .u32 x.si, .int .u64 x.tm, .int .u32 x.ti, .int .u32 x.hs, .int .u32 x.hd, .int .i64 x.tl, .int .i64 x.pr, .int .i64 x.sp, .int .i64 x.dp, .int .u64 x.da]
def FR.ac (x : FR) : Array Value := #[.int .i64 x.op, .int .u64 x.sm, .int .u32 x.si, .int .u64 x.tm, .int .u32 x.ti]
def FR.hc (x : FR) : Array Value := #[.int .u32 x.hs, .int .u32 x.hd, .int .i64 x.tl, .int .i64 x.pr, .int .i64 x.sp, .int .i64 x.dp]
def fr0 : FR := ⟨0, 0, 0, 0, 0, 0, 0, 0, 0, 0, 0, 0, 0, 0, 0⟩
theorem FR.size (x : FR) : x.cs.size = 15 := rfl
theorem FR.one (x : FR) : x.cs.all (·.oneCell') = true := by simp [FR.cs, Value.oneCell']

/-- Two messages, two headers, two frames, compared. -/
def FR.sameA (x y : FR) : Bool := x.op == y.op && x.sm == y.sm && x.si == y.si && x.tm == y.tm && x.ti == y.ti
def FR.sameH (x y : FR) : Bool := x.hs == y.hs && x.hd == y.hd && x.tl == y.tl && x.pr == y.pr && x.sp == y.sp && x.dp == y.dp
def FR.same (x y : FR) : Bool := x.s == y.s && x.d == y.d && x.k == y.k && x.op == y.op && x.sm == y.sm && x.si == y.si && x.tm == y.tm && x.ti == y.ti && x.hs == y.hs && x.hd == y.hd && x.tl == y.tl && x.pr == y.pr && x.sp == y.sp && x.dp == y.dp && x.da == y.da
theorem FR.same_iff {x y : FR} : x.same y = true ↔ x = y := by
  cases x; cases y
  simp [FR.same, FR.mk.injEq, and_assoc]
theorem FR.same_self (x : FR) : x.same x = true := by simp [FR.same]
theorem fr_fit : (Try.prog.info? 32).map (·.size) = some 15 := by kernel_rfl
theorem FR.fit (x : FR) : (Try.prog.info? 32).map (·.size) = some x.cs.size := fr_fit

theorem Has.f0 {w : World} {g : Nat} {t : TypeId} {x : FR} (h : Has w g t x.cs) : w.cell? ⟨g, 0, none⟩ = some (.int .u64 x.s) := h.cell 0
theorem Has.f1 {w : World} {g : Nat} {t : TypeId} {x : FR} (h : Has w g t x.cs) : w.cell? ⟨g, 1, none⟩ = some (.int .u64 x.d) := h.cell 1
theorem Has.f2 {w : World} {g : Nat} {t : TypeId} {x : FR} (h : Has w g t x.cs) : w.cell? ⟨g, 2, none⟩ = some (.int .i64 x.k) := h.cell 2
theorem Has.f3 {w : World} {g : Nat} {t : TypeId} {x : FR} (h : Has w g t x.cs) : w.cell? ⟨g, 3, none⟩ = some (.int .i64 x.op) := h.cell 3
theorem Has.f4 {w : World} {g : Nat} {t : TypeId} {x : FR} (h : Has w g t x.cs) : w.cell? ⟨g, 4, none⟩ = some (.int .u64 x.sm) := h.cell 4
theorem Has.f5 {w : World} {g : Nat} {t : TypeId} {x : FR} (h : Has w g t x.cs) : w.cell? ⟨g, 5, none⟩ = some (.int .u32 x.si) := h.cell 5
theorem Has.f6 {w : World} {g : Nat} {t : TypeId} {x : FR} (h : Has w g t x.cs) : w.cell? ⟨g, 6, none⟩ = some (.int .u64 x.tm) := h.cell 6
theorem Has.f7 {w : World} {g : Nat} {t : TypeId} {x : FR} (h : Has w g t x.cs) : w.cell? ⟨g, 7, none⟩ = some (.int .u32 x.ti) := h.cell 7
theorem Has.f8 {w : World} {g : Nat} {t : TypeId} {x : FR} (h : Has w g t x.cs) : w.cell? ⟨g, 8, none⟩ = some (.int .u32 x.hs) := h.cell 8
theorem Has.f9 {w : World} {g : Nat} {t : TypeId} {x : FR} (h : Has w g t x.cs) : w.cell? ⟨g, 9, none⟩ = some (.int .u32 x.hd) := h.cell 9
theorem Has.f10 {w : World} {g : Nat} {t : TypeId} {x : FR} (h : Has w g t x.cs) : w.cell? ⟨g, 10, none⟩ = some (.int .i64 x.tl) := h.cell 10
theorem Has.f11 {w : World} {g : Nat} {t : TypeId} {x : FR} (h : Has w g t x.cs) : w.cell? ⟨g, 11, none⟩ = some (.int .i64 x.pr) := h.cell 11
theorem Has.f12 {w : World} {g : Nat} {t : TypeId} {x : FR} (h : Has w g t x.cs) : w.cell? ⟨g, 12, none⟩ = some (.int .i64 x.sp) := h.cell 12
theorem Has.f13 {w : World} {g : Nat} {t : TypeId} {x : FR} (h : Has w g t x.cs) : w.cell? ⟨g, 13, none⟩ = some (.int .i64 x.dp) := h.cell 13
theorem Has.f14 {w : World} {g : Nat} {t : TypeId} {x : FR} (h : Has w g t x.cs) : w.cell? ⟨g, 14, none⟩ = some (.int .u64 x.da) := h.cell 14

/-- The load of a whole frame, in whatever order. -/
theorem yields_fr {ops : Array Oper} {S : World → Prop} {op : Oper} {a : Act} (hw : Region.wanted op (yielded ops a.tmps) = true) (y : Operand) (ho : op.op = .load 32 y)
    (b : Nat) (hx : a.eval y = .pointer (some ⟨b, 0, none⟩)) (x : FR) (hS : ∀ w, S w → ∃ t, Has w b t x.cs) : YieldsIf Try.prog ops S op (.agg x.cs) a :=
  .inl ⟨hw, fun w hw' => by
    obtain ⟨t, h⟩ := hS w hw'
    unfold execOp
    simp only [ho, hx, Instr.loadAt, Instr.sureAddr, Sem.run_bind, Sem.run_pure, Result.andThen_ok, run_loadVar_row w b t 32 x.cs (0, 0) _ h Try.underlying32 rfl x.fit]⟩

theorem fld_nil (P : Program) (w : World) (d : Nat) (xs ys : Array Value) : (Op.eqFields d xs ys []).run P w = .ok true w := rfl
theorem fld_step {P : Program} {w : World} {d : Nat} {xs ys : Array Value} {f : Field} {fs : List Field} (a b : Value) {r c : Bool} (hn : f.name ≠ "_") (ha : (part f.type xs f.offset).run P w = .ok a w) (hb : (part f.type ys f.offset).run P w = .ok b w)
    (hr : (Op.equalIn d f.type a b).run P w = .ok r w) (hc : (Op.eqFields d xs ys fs).run P w = .ok c w) : (Op.eqFields d xs ys (f :: fs)).run P w = .ok (r && c) w := by
  simp only [Op.eqFields, Sem.run_bind, Sem.run_ite, ne_eq, hn, not_false_eq_true, if_true, ha, hb, hr, Result.andThen_ok, hc]
  cases r <;> simp
theorem ap_stood : Try.prog.stoodInHeld 28 = false := by kernel_rfl
theorem hp_stood : Try.prog.stoodInHeld 30 = false := by kernel_rfl
theorem fr_stood : Try.prog.stoodInHeld 32 = false := by kernel_rfl

set_option maxHeartbeats 1000000 in
theorem ap_eq (d : Nat) (x y : FR) (w : World) : (Op.equalIn (d + 2) 28 (.agg x.ac) (.agg y.ac)).run Try.prog w = .ok (x.sameA y) w := by
  rw [run_equalIn_struct w (d + 1) 28 _ _ Try.underlying28 ap_stood]
  have px0 : (part 3 x.ac 0).run Try.prog w = .ok (.int .i64 x.op) w := by kernel_rfl
  have py0 : (part 3 y.ac 0).run Try.prog w = .ok (.int .i64 y.op) w := by kernel_rfl
  have px1 : (part 26 x.ac 1).run Try.prog w = .ok (.int .u64 x.sm) w := by kernel_rfl
  have py1 : (part 26 y.ac 1).run Try.prog w = .ok (.int .u64 y.sm) w := by kernel_rfl
  have px2 : (part 24 x.ac 2).run Try.prog w = .ok (.int .u32 x.si) w := by kernel_rfl
  have py2 : (part 24 y.ac 2).run Try.prog w = .ok (.int .u32 y.si) w := by kernel_rfl
  have px3 : (part 26 x.ac 3).run Try.prog w = .ok (.int .u64 x.tm) w := by kernel_rfl
  have py3 : (part 26 y.ac 3).run Try.prog w = .ok (.int .u64 y.tm) w := by kernel_rfl
  have px4 : (part 24 x.ac 4).run Try.prog w = .ok (.int .u32 x.ti) w := by kernel_rfl
  have py4 : (part 24 y.ac 4).run Try.prog w = .ok (.int .u32 y.ti) w := by kernel_rfl
  have h := (fld_step (d := d + 1) (xs := x.ac) (ys := y.ac) (f := (Try.prog.fieldsOf 28).toList[0]'(by decide)) (fs := [(Try.prog.fieldsOf 28).toList[1]'(by decide), (Try.prog.fieldsOf 28).toList[2]'(by decide), (Try.prog.fieldsOf 28).toList[3]'(by decide), (Try.prog.fieldsOf 28).toList[4]'(by decide)]) (w := w) _ _ (by decide) px0 py0 (run_equalIn_int w d 3 .i64 .i64 x.op y.op Try.underlying3)
    (fld_step (d := d + 1) (xs := x.ac) (ys := y.ac) (f := (Try.prog.fieldsOf 28).toList[1]'(by decide)) (fs := [(Try.prog.fieldsOf 28).toList[2]'(by decide), (Try.prog.fieldsOf 28).toList[3]'(by decide), (Try.prog.fieldsOf 28).toList[4]'(by decide)]) (w := w) _ _ (by decide) px1 py1 (run_equalIn_int w d 26 .u64 .u64 x.sm y.sm Try.underlying26)
    (fld_step (d := d + 1) (xs := x.ac) (ys := y.ac) (f := (Try.prog.fieldsOf 28).toList[2]'(by decide)) (fs := [(Try.prog.fieldsOf 28).toList[3]'(by decide), (Try.prog.fieldsOf 28).toList[4]'(by decide)]) (w := w) _ _ (by decide) px2 py2 (run_equalIn_int w d 24 .u32 .u32 x.si y.si Try.underlying24)
    (fld_step (d := d + 1) (xs := x.ac) (ys := y.ac) (f := (Try.prog.fieldsOf 28).toList[3]'(by decide)) (fs := [(Try.prog.fieldsOf 28).toList[4]'(by decide)]) (w := w) _ _ (by decide) px3 py3 (run_equalIn_int w d 26 .u64 .u64 x.tm y.tm Try.underlying26)
    (fld_step (d := d + 1) (xs := x.ac) (ys := y.ac) (f := (Try.prog.fieldsOf 28).toList[4]'(by decide)) (fs := []) (w := w) _ _ (by decide) px4 py4 (run_equalIn_int w d 24 .u32 .u32 x.ti y.ti Try.underlying24)
    (fld_nil _ _ _ _ _))))))
  have hs : x.sameA y = ((x.op == y.op) && ((x.sm == y.sm) && ((x.si == y.si) && ((x.tm == y.tm) && ((x.ti == y.ti) && true))))) := by
    simp [FR.same, FR.sameA, FR.sameH, Bool.and_assoc]
  rw [hs]
  exact h

set_option maxHeartbeats 1000000 in
theorem hp_eq (d : Nat) (x y : FR) (w : World) : (Op.equalIn (d + 2) 30 (.agg x.hc) (.agg y.hc)).run Try.prog w = .ok (x.sameH y) w := by
  rw [run_equalIn_struct w (d + 1) 30 _ _ Try.underlying30 hp_stood]
  have px0 : (part 24 x.hc 0).run Try.prog w = .ok (.int .u32 x.hs) w := by kernel_rfl
  have py0 : (part 24 y.hc 0).run Try.prog w = .ok (.int .u32 y.hs) w := by kernel_rfl
  have px1 : (part 24 x.hc 1).run Try.prog w = .ok (.int .u32 x.hd) w := by kernel_rfl
  have py1 : (part 24 y.hc 1).run Try.prog w = .ok (.int .u32 y.hd) w := by kernel_rfl
  have px2 : (part 3 x.hc 2).run Try.prog w = .ok (.int .i64 x.tl) w := by kernel_rfl
  have py2 : (part 3 y.hc 2).run Try.prog w = .ok (.int .i64 y.tl) w := by kernel_rfl
  have px3 : (part 3 x.hc 3).run Try.prog w = .ok (.int .i64 x.pr) w := by kernel_rfl
  have py3 : (part 3 y.hc 3).run Try.prog w = .ok (.int .i64 y.pr) w := by kernel_rfl
  have px4 : (part 3 x.hc 4).run Try.prog w = .ok (.int .i64 x.sp) w := by kernel_rfl
  have py4 : (part 3 y.hc 4).run Try.prog w = .ok (.int .i64 y.sp) w := by kernel_rfl
  have px5 : (part 3 x.hc 5).run Try.prog w = .ok (.int .i64 x.dp) w := by kernel_rfl
  have py5 : (part 3 y.hc 5).run Try.prog w = .ok (.int .i64 y.dp) w := by kernel_rfl
  have h := (fld_step (d := d + 1) (xs := x.hc) (ys := y.hc) (f := (Try.prog.fieldsOf 30).toList[0]'(by decide)) (fs := [(Try.prog.fieldsOf 30).toList[1]'(by decide), (Try.prog.fieldsOf 30).toList[2]'(by decide), (Try.prog.fieldsOf 30).toList[3]'(by decide), (Try.prog.fieldsOf 30).toList[4]'(by decide), (Try.prog.fieldsOf 30).toList[5]'(by decide)]) (w := w) _ _ (by decide) px0 py0 (run_equalIn_int w d 24 .u32 .u32 x.hs y.hs Try.underlying24)
    (fld_step (d := d + 1) (xs := x.hc) (ys := y.hc) (f := (Try.prog.fieldsOf 30).toList[1]'(by decide)) (fs := [(Try.prog.fieldsOf 30).toList[2]'(by decide), (Try.prog.fieldsOf 30).toList[3]'(by decide), (Try.prog.fieldsOf 30).toList[4]'(by decide), (Try.prog.fieldsOf 30).toList[5]'(by decide)]) (w := w) _ _ (by decide) px1 py1 (run_equalIn_int w d 24 .u32 .u32 x.hd y.hd Try.underlying24)
    (fld_step (d := d + 1) (xs := x.hc) (ys := y.hc) (f := (Try.prog.fieldsOf 30).toList[2]'(by decide)) (fs := [(Try.prog.fieldsOf 30).toList[3]'(by decide), (Try.prog.fieldsOf 30).toList[4]'(by decide), (Try.prog.fieldsOf 30).toList[5]'(by decide)]) (w := w) _ _ (by decide) px2 py2 (run_equalIn_int w d 3 .i64 .i64 x.tl y.tl Try.underlying3)
    (fld_step (d := d + 1) (xs := x.hc) (ys := y.hc) (f := (Try.prog.fieldsOf 30).toList[3]'(by decide)) (fs := [(Try.prog.fieldsOf 30).toList[4]'(by decide), (Try.prog.fieldsOf 30).toList[5]'(by decide)]) (w := w) _ _ (by decide) px3 py3 (run_equalIn_int w d 3 .i64 .i64 x.pr y.pr Try.underlying3)
    (fld_step (d := d + 1) (xs := x.hc) (ys := y.hc) (f := (Try.prog.fieldsOf 30).toList[4]'(by decide)) (fs := [(Try.prog.fieldsOf 30).toList[5]'(by decide)]) (w := w) _ _ (by decide) px4 py4 (run_equalIn_int w d 3 .i64 .i64 x.sp y.sp Try.underlying3)
    (fld_step (d := d + 1) (xs := x.hc) (ys := y.hc) (f := (Try.prog.fieldsOf 30).toList[5]'(by decide)) (fs := []) (w := w) _ _ (by decide) px5 py5 (run_equalIn_int w d 3 .i64 .i64 x.dp y.dp Try.underlying3)
    (fld_nil _ _ _ _ _)))))))
  have hs : x.sameH y = ((x.hs == y.hs) && ((x.hd == y.hd) && ((x.tl == y.tl) && ((x.pr == y.pr) && ((x.sp == y.sp) && ((x.dp == y.dp) && true)))))) := by
    simp [FR.same, FR.sameA, FR.sameH, Bool.and_assoc]
  rw [hs]
  exact h

set_option maxHeartbeats 1000000 in
theorem fr_eq (x y : FR) (w : World) : (Op.equalIn 10000 32 (.agg x.cs) (.agg y.cs)).run Try.prog w = .ok (x.same y) w := by
  rw [run_equalIn_struct w 9999 32 _ _ Try.underlying32 fr_stood]
  have px0 : (part 26 x.cs 0).run Try.prog w = .ok (.int .u64 x.s) w := by kernel_rfl
  have py0 : (part 26 y.cs 0).run Try.prog w = .ok (.int .u64 y.s) w := by kernel_rfl
  have px1 : (part 26 x.cs 1).run Try.prog w = .ok (.int .u64 x.d) w := by kernel_rfl
  have py1 : (part 26 y.cs 1).run Try.prog w = .ok (.int .u64 y.d) w := by kernel_rfl
  have px2 : (part 3 x.cs 2).run Try.prog w = .ok (.int .i64 x.k) w := by kernel_rfl
  have py2 : (part 3 y.cs 2).run Try.prog w = .ok (.int .i64 y.k) w := by kernel_rfl
  have px3 : (part 28 x.cs 3).run Try.prog w = .ok (.agg x.ac) w := by kernel_rfl
  have py3 : (part 28 y.cs 3).run Try.prog w = .ok (.agg y.ac) w := by kernel_rfl
  have px4 : (part 30 x.cs 8).run Try.prog w = .ok (.agg x.hc) w := by kernel_rfl
  have py4 : (part 30 y.cs 8).run Try.prog w = .ok (.agg y.hc) w := by kernel_rfl
  have px5 : (part 25 x.cs 14).run Try.prog w = .ok (.int .u64 x.da) w := by kernel_rfl
  have py5 : (part 25 y.cs 14).run Try.prog w = .ok (.int .u64 y.da) w := by kernel_rfl
  have h := (fld_step (d := 9999) (xs := x.cs) (ys := y.cs) (f := (Try.prog.fieldsOf 32).toList[0]'(by decide)) (fs := [(Try.prog.fieldsOf 32).toList[1]'(by decide), (Try.prog.fieldsOf 32).toList[2]'(by decide), (Try.prog.fieldsOf 32).toList[3]'(by decide), (Try.prog.fieldsOf 32).toList[4]'(by decide), (Try.prog.fieldsOf 32).toList[5]'(by decide)]) (w := w) _ _ (by decide) px0 py0 (run_equalIn_int w 9998 26 .u64 .u64 x.s y.s Try.underlying26)
    (fld_step (d := 9999) (xs := x.cs) (ys := y.cs) (f := (Try.prog.fieldsOf 32).toList[1]'(by decide)) (fs := [(Try.prog.fieldsOf 32).toList[2]'(by decide), (Try.prog.fieldsOf 32).toList[3]'(by decide), (Try.prog.fieldsOf 32).toList[4]'(by decide), (Try.prog.fieldsOf 32).toList[5]'(by decide)]) (w := w) _ _ (by decide) px1 py1 (run_equalIn_int w 9998 26 .u64 .u64 x.d y.d Try.underlying26)
    (fld_step (d := 9999) (xs := x.cs) (ys := y.cs) (f := (Try.prog.fieldsOf 32).toList[2]'(by decide)) (fs := [(Try.prog.fieldsOf 32).toList[3]'(by decide), (Try.prog.fieldsOf 32).toList[4]'(by decide), (Try.prog.fieldsOf 32).toList[5]'(by decide)]) (w := w) _ _ (by decide) px2 py2 (run_equalIn_int w 9998 3 .i64 .i64 x.k y.k Try.underlying3)
    (fld_step (d := 9999) (xs := x.cs) (ys := y.cs) (f := (Try.prog.fieldsOf 32).toList[3]'(by decide)) (fs := [(Try.prog.fieldsOf 32).toList[4]'(by decide), (Try.prog.fieldsOf 32).toList[5]'(by decide)]) (w := w) _ _ (by decide) px3 py3 (ap_eq 9997 x y w)
    (fld_step (d := 9999) (xs := x.cs) (ys := y.cs) (f := (Try.prog.fieldsOf 32).toList[4]'(by decide)) (fs := [(Try.prog.fieldsOf 32).toList[5]'(by decide)]) (w := w) _ _ (by decide) px4 py4 (hp_eq 9997 x y w)
    (fld_step (d := 9999) (xs := x.cs) (ys := y.cs) (f := (Try.prog.fieldsOf 32).toList[5]'(by decide)) (fs := []) (w := w) _ _ (by decide) px5 py5 (run_equalIn_int w 9998 25 .u64 .u64 x.da y.da Try.underlying25)
    (fld_nil _ _ _ _ _)))))))
  have hs : x.same y = ((x.s == y.s) && ((x.d == y.d) && ((x.k == y.k) && ((x.sameA y) && ((x.sameH y) && ((x.da == y.da) && true)))))) := by
    simp [FR.same, FR.sameA, FR.sameH, Bool.and_assoc]
  rw [hs]
  exact h

theorem neq_ap (x y : FR) (w : World) : (binOp .neq 28 (.agg x.ac) (.agg y.ac)).run Try.prog w = .ok (.bool (!x.sameA y)) w := by
  rw [run_neq_struct, ap_eq 9998]; rfl
theorem eql_ap (x y : FR) (w : World) : (binOp .eql 28 (.agg x.ac) (.agg y.ac)).run Try.prog w = .ok (.bool (x.sameA y)) w := by
  rw [run_eql_struct, ap_eq 9998]; rfl

theorem neq_hp (x y : FR) (w : World) : (binOp .neq 30 (.agg x.hc) (.agg y.hc)).run Try.prog w = .ok (.bool (!x.sameH y)) w := by
  rw [run_neq_struct, hp_eq 9998]; rfl
theorem eql_hp (x y : FR) (w : World) : (binOp .eql 30 (.agg x.hc) (.agg y.hc)).run Try.prog w = .ok (.bool (x.sameH y)) w := by
  rw [run_eql_struct, hp_eq 9998]; rfl

theorem neq_fr (x y : FR) (w : World) : (binOp .neq 32 (.agg x.cs) (.agg y.cs)).run Try.prog w = .ok (.bool (!x.same y)) w := by
  rw [run_neq_struct, fr_eq]; rfl
theorem eql_fr (x y : FR) (w : World) : (binOp .eql 32 (.agg x.cs) (.agg y.cs)).run Try.prog w = .ok (.bool (x.same y)) w := by
  rw [run_eql_struct, fr_eq]; rfl

theorem ft_stood : Try.prog.stoodInHeld 37 = false := by kernel_rfl
theorem ft_eq (d : Nat) (p l q m : Int) (w : World) : (Op.equalIn (d + 2) 37 (.agg #[.int .i64 p, .int .i64 l]) (.agg #[.int .i64 q, .int .i64 m])).run Try.prog w = .ok ((p == q) && (l == m)) w := by
  rw [run_equalIn_struct w (d + 1) 37 _ _ Try.underlying37 ft_stood]
  have h := fld_step (d := d + 1) (xs := #[.int .i64 p, .int .i64 l]) (ys := #[.int .i64 q, .int .i64 m]) (f := (Try.prog.fieldsOf 37).toList[0]'(by decide)) (fs := [(Try.prog.fieldsOf 37).toList[1]'(by decide)]) (w := w) (.int .i64 p) (.int .i64 q) (by decide) (by kernel_rfl) (by kernel_rfl) (run_equalIn_int w d 35 .i64 .i64 p q Try.underlying35)
    (fld_step (w := w) (.int .i64 l) (.int .i64 m) (by decide) (by kernel_rfl) (by kernel_rfl) (run_equalIn_int w d 3 .i64 .i64 l m Try.underlying3) (fld_nil _ _ _ _ _))
  rw [Bool.and_true] at h
  exact h
theorem neq_ft (p l q m : Int) (w : World) : (binOp .neq 37 (.agg #[.int .i64 p, .int .i64 l]) (.agg #[.int .i64 q, .int .i64 m])).run Try.prog w = .ok (.bool (!((p == q) && (l == m)))) w := by
  rw [run_neq_struct, ft_eq 9998]; rfl
theorem eql_ft (p l q m : Int) (w : World) : (binOp .eql 37 (.agg #[.int .i64 p, .int .i64 l]) (.agg #[.int .i64 q, .int .i64 m])).run Try.prog w = .ok (.bool ((p == q) && (l == m))) w := by
  rw [run_eql_struct, ft_eq 9998]; rfl

/-- The ranges of the types. -/
structure FR.ty (x : FR) : Prop where
  s : 0 ≤ x.s ∧ x.s < 18446744073709551616
  d : 0 ≤ x.d ∧ x.d < 18446744073709551616
  k : (Lit.int .i64 x.k).wf = true
  op : (Lit.int .i64 x.op).wf = true
  sm : 0 ≤ x.sm ∧ x.sm < 18446744073709551616
  si : 0 ≤ x.si ∧ x.si < 4294967296
  tm : 0 ≤ x.tm ∧ x.tm < 18446744073709551616
  ti : 0 ≤ x.ti ∧ x.ti < 4294967296
  hs : 0 ≤ x.hs ∧ x.hs < 4294967296
  hd : 0 ≤ x.hd ∧ x.hd < 4294967296
  tl : (Lit.int .i64 x.tl).wf = true
  pr : (Lit.int .i64 x.pr).wf = true
  sp : (Lit.int .i64 x.sp).wf = true
  dp : (Lit.int .i64 x.dp).wf = true
  da : 0 ≤ x.da ∧ x.da < 18446744073709551616

theorem list15 {α : Type} (l : List α) (h : l.length = 15) : ∃ c0 c1 c2 c3 c4 c5 c6 c7 c8 c9 c10 c11 c12 c13 c14, l = [c0, c1, c2, c3, c4, c5, c6, c7, c8, c9, c10, c11, c12, c13, c14] := by
  match l, h with
  | [c0, c1, c2, c3, c4, c5, c6, c7, c8, c9, c10, c11, c12, c13, c14], _ => exact ⟨c0, c1, c2, c3, c4, c5, c6, c7, c8, c9, c10, c11, c12, c13, c14, rfl⟩
theorem cellsFr : Try.prog.cellsOf 32 = 15 := by kernel_rfl
theorem typesFr : Try.prog.cellTypes Try.prog.depth 32 = some [26, 26, 3, 3, 26, 24, 26, 24, 24, 24, 3, 3, 3, 3, 25] := by kernel_rfl
section
variable {W : World} {base : Nat}
theorem cell_has {t : TypeId} {k : IntKind} {v : Value} (ht : Try.prog.underlying t = some (.int k)) (h : Cell.okWide Try.prog W .any base t v) : ∃ n, v = .int k n ∧ k.has n := by
  simp only [Cell.okWide, ht] at h
  cases v <;> simp_all [Cell.ok]
theorem has_u8 {n : Int} (h : IntKind.u8.has n) : 0 ≤ n ∧ n ≤ 255 := h
theorem has_u32 {n : Int} (h : IntKind.u32.has n) : 0 ≤ n ∧ n < 4294967296 := by
  have h' : 0 ≤ n ∧ n ≤ 4294967295 := h
  omega
theorem has_u64 {n : Int} (h : IntKind.u64.has n) : 0 ≤ n ∧ n < 18446744073709551616 := by
  have h' : 0 ≤ n ∧ n ≤ 18446744073709551615 := h
  omega
theorem has_wf {n : Int} (h : IntKind.i64.has n) : (Lit.int .i64 n).wf = true := by
  simpa [Lit.wf, IntKind.has] using h
theorem open_fr {v : Value} (hv : Value.okWide Try.prog W .any base 32 v) : ∃ x : FR, v = .agg x.cs ∧ x.ty := by
  obtain ⟨cs, rfl, hsz, ts, hts, _, hc⟩ : ∃ cs, v = .agg cs ∧ cs.size = Try.prog.cellsOf 32 ∧ Row.okWide Try.prog W .any base 32 cs := by
    simpa [Value.okWide, Try.underlying32] using hv
  rw [cellsFr] at hsz
  rw [typesFr] at hts
  injection hts with hts
  subst hts
  obtain ⟨l⟩ := cs
  obtain ⟨c0, c1, c2, c3, c4, c5, c6, c7, c8, c9, c10, c11, c12, c13, c14, rfl⟩ := list15 l (by simpa using hsz)
  have at_ : ∀ (i : Nat) (v : Value) (u : TypeId), (#[c0, c1, c2, c3, c4, c5, c6, c7, c8, c9, c10, c11, c12, c13, c14] : Array Value)[i]? = some v → [26, 26, 3, 3, 26, 24, 26, 24, 24, 24, 3, 3, 3, 3, 25][i % 15]? = some u → Cell.okWide Try.prog W .any base u v := fun i v u h1 h2 => by
    obtain ⟨u', h3, h4⟩ := hc i v h1
    have h5 : some u' = some u := h3.symm.trans h2
    injection h5 with h5
    exact h5 ▸ h4
  obtain ⟨n0, rfl, h0⟩ := cell_has Try.underlying26 (at_ 0 _ _ rfl rfl)
  obtain ⟨n1, rfl, h1⟩ := cell_has Try.underlying26 (at_ 1 _ _ rfl rfl)
  obtain ⟨n2, rfl, h2⟩ := cell_has Try.underlying3 (at_ 2 _ _ rfl rfl)
  obtain ⟨n3, rfl, h3⟩ := cell_has Try.underlying3 (at_ 3 _ _ rfl rfl)
  obtain ⟨n4, rfl, h4⟩ := cell_has Try.underlying26 (at_ 4 _ _ rfl rfl)
  obtain ⟨n5, rfl, h5⟩ := cell_has Try.underlying24 (at_ 5 _ _ rfl rfl)
  obtain ⟨n6, rfl, h6⟩ := cell_has Try.underlying26 (at_ 6 _ _ rfl rfl)
  obtain ⟨n7, rfl, h7⟩ := cell_has Try.underlying24 (at_ 7 _ _ rfl rfl)
  obtain ⟨n8, rfl, h8⟩ := cell_has Try.underlying24 (at_ 8 _ _ rfl rfl)
  obtain ⟨n9, rfl, h9⟩ := cell_has Try.underlying24 (at_ 9 _ _ rfl rfl)
  obtain ⟨n10, rfl, h10⟩ := cell_has Try.underlying3 (at_ 10 _ _ rfl rfl)
  obtain ⟨n11, rfl, h11⟩ := cell_has Try.underlying3 (at_ 11 _ _ rfl rfl)
  obtain ⟨n12, rfl, h12⟩ := cell_has Try.underlying3 (at_ 12 _ _ rfl rfl)
  obtain ⟨n13, rfl, h13⟩ := cell_has Try.underlying3 (at_ 13 _ _ rfl rfl)
  obtain ⟨n14, rfl, h14⟩ := cell_has Try.underlying25 (at_ 14 _ _ rfl rfl)
  exact ⟨⟨n0, n1, n2, n3, n4, n5, n6, n7, n8, n9, n10, n11, n12, n13, n14⟩, rfl, has_u64 h0, has_u64 h1, has_wf h2, has_wf h3, has_u64 h4, has_u32 h5, has_u64 h6, has_u32 h7, has_u32 h8, has_u32 h9, has_wf h10, has_wf h11, has_wf h12, has_wf h13, has_u64 h14⟩
end

end Go.Proofs.Ytgdfpmnbofnjfaa
