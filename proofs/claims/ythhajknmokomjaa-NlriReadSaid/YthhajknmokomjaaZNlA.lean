/- Routes: the words for their memory; comparing; the map of codings. -/
import Derived.Test.YthhajknmokomjaaZLw
import Derived.Test.YthhajknmokomjaaZOc
import Derived.Laws.Rows
import Derived.Deep.MidRow
import Derived.Maps.Own
import Derived.Maps.Keyed
namespace Go.Proofs.Ythhajknmokomjaa
open Go.RowKit Go.Maps
set_option linter.unusedVariables false
set_option maxRecDepth 100000

/-- A route. -/
structure NL where
  k : Int
  rd : Int
  e0 : Int
  e1 : Int
  e2 : Int
  e3 : Int
  e4 : Int
  e5 : Int
  e6 : Int
  e7 : Int
  e8 : Int
  e9 : Int
  tag : Int
  mac : Int
  ip : Int
  has : Bool
  pip : Int
  pl : Int
  gw : Int
  l1 : Int
  l2 : Int

/-- The cells of a route. -/
def NL.cs (x : NL) : Array Value := #[.int .i64 x.k, .int .u64 x.rd, .int .u8 x.e0, .int .u8 x.e1, .int .u8 x.e2, .int .u8 x.e3, .int .u8 x.e4, .int .u8 x.e5, .int .u8 x.e6, .int .u8 x.e7, .int .u8 x.e8, .int .u8 x.e9, .int .u32 x.tag, .int .u64 x.mac, .int .u32 x.ip, .bool x.has, .int .u32 x.pip, .int .i64 x.pl, .int .u32 x.gw, .int .u32 x.l1, .int .u32 x.l2]
/-- A route by value. -/
def NL.v (x : NL) : Value := .agg x.cs
theorem NL.size (x : NL) : x.cs.size = 21 := rfl
theorem NL.one (x : NL) : x.cs.all (·.oneCell') = true := by simp [NL.cs, Value.oneCell']
theorem NL.v_eq (x : NL) : x.v = .agg x.cs := rfl

/-- Two routes, compared field by field. -/
def NL.same (x y : NL) : Bool := x.k == y.k && x.rd == y.rd && x.e0 == y.e0 && x.e1 == y.e1 && x.e2 == y.e2 && x.e3 == y.e3 && x.e4 == y.e4 && x.e5 == y.e5 && x.e6 == y.e6 && x.e7 == y.e7 && x.e8 == y.e8 && x.e9 == y.e9 && x.tag == y.tag && x.mac == y.mac && x.ip == y.ip && x.has == y.has && x.pip == y.pip && x.pl == y.pl && x.gw == y.gw && x.l1 == y.l1 && x.l2 == y.l2
theorem NL.same_iff {x y : NL} : x.same y = true ↔ x = y := by
  cases x; cases y
  simp [NL.same, NL.mk.injEq, and_assoc]
theorem nl_fit : (Try.prog.info? 31).map (·.size) = some 21 := by kernel_rfl
theorem NL.fit (x : NL) : (Try.prog.info? 31).map (·.size) = some x.cs.size := nl_fit

theorem Has.n0 {w : World} {g : Nat} {t : TypeId} {x : NL} (h : Has w g t x.cs) : w.cell? ⟨g, 0, none⟩ = some (.int .i64 x.k) := h.cell 0
theorem Has.n1 {w : World} {g : Nat} {t : TypeId} {x : NL} (h : Has w g t x.cs) : w.cell? ⟨g, 1, none⟩ = some (.int .u64 x.rd) := h.cell 1
theorem Has.n2 {w : World} {g : Nat} {t : TypeId} {x : NL} (h : Has w g t x.cs) : w.cell? ⟨g, 2, none⟩ = some (.int .u8 x.e0) := h.cell 2
theorem Has.n3 {w : World} {g : Nat} {t : TypeId} {x : NL} (h : Has w g t x.cs) : w.cell? ⟨g, 3, none⟩ = some (.int .u8 x.e1) := h.cell 3
theorem Has.n4 {w : World} {g : Nat} {t : TypeId} {x : NL} (h : Has w g t x.cs) : w.cell? ⟨g, 4, none⟩ = some (.int .u8 x.e2) := h.cell 4
theorem Has.n5 {w : World} {g : Nat} {t : TypeId} {x : NL} (h : Has w g t x.cs) : w.cell? ⟨g, 5, none⟩ = some (.int .u8 x.e3) := h.cell 5
theorem Has.n6 {w : World} {g : Nat} {t : TypeId} {x : NL} (h : Has w g t x.cs) : w.cell? ⟨g, 6, none⟩ = some (.int .u8 x.e4) := h.cell 6
theorem Has.n7 {w : World} {g : Nat} {t : TypeId} {x : NL} (h : Has w g t x.cs) : w.cell? ⟨g, 7, none⟩ = some (.int .u8 x.e5) := h.cell 7
theorem Has.n8 {w : World} {g : Nat} {t : TypeId} {x : NL} (h : Has w g t x.cs) : w.cell? ⟨g, 8, none⟩ = some (.int .u8 x.e6) := h.cell 8
theorem Has.n9 {w : World} {g : Nat} {t : TypeId} {x : NL} (h : Has w g t x.cs) : w.cell? ⟨g, 9, none⟩ = some (.int .u8 x.e7) := h.cell 9
theorem Has.n10 {w : World} {g : Nat} {t : TypeId} {x : NL} (h : Has w g t x.cs) : w.cell? ⟨g, 10, none⟩ = some (.int .u8 x.e8) := h.cell 10
theorem Has.n11 {w : World} {g : Nat} {t : TypeId} {x : NL} (h : Has w g t x.cs) : w.cell? ⟨g, 11, none⟩ = some (.int .u8 x.e9) := h.cell 11
theorem Has.n12 {w : World} {g : Nat} {t : TypeId} {x : NL} (h : Has w g t x.cs) : w.cell? ⟨g, 12, none⟩ = some (.int .u32 x.tag) := h.cell 12
theorem Has.n13 {w : World} {g : Nat} {t : TypeId} {x : NL} (h : Has w g t x.cs) : w.cell? ⟨g, 13, none⟩ = some (.int .u64 x.mac) := h.cell 13
theorem Has.n14 {w : World} {g : Nat} {t : TypeId} {x : NL} (h : Has w g t x.cs) : w.cell? ⟨g, 14, none⟩ = some (.int .u32 x.ip) := h.cell 14
theorem Has.n15 {w : World} {g : Nat} {t : TypeId} {x : NL} (h : Has w g t x.cs) : w.cell? ⟨g, 15, none⟩ = some (.bool x.has) := h.cell 15
theorem Has.n16 {w : World} {g : Nat} {t : TypeId} {x : NL} (h : Has w g t x.cs) : w.cell? ⟨g, 16, none⟩ = some (.int .u32 x.pip) := h.cell 16
theorem Has.n17 {w : World} {g : Nat} {t : TypeId} {x : NL} (h : Has w g t x.cs) : w.cell? ⟨g, 17, none⟩ = some (.int .i64 x.pl) := h.cell 17
theorem Has.n18 {w : World} {g : Nat} {t : TypeId} {x : NL} (h : Has w g t x.cs) : w.cell? ⟨g, 18, none⟩ = some (.int .u32 x.gw) := h.cell 18
theorem Has.n19 {w : World} {g : Nat} {t : TypeId} {x : NL} (h : Has w g t x.cs) : w.cell? ⟨g, 19, none⟩ = some (.int .u32 x.l1) := h.cell 19
theorem Has.n20 {w : World} {g : Nat} {t : TypeId} {x : NL} (h : Has w g t x.cs) : w.cell? ⟨g, 20, none⟩ = some (.int .u32 x.l2) := h.cell 20

/-- The load of a whole route, in whatever order. -/
theorem yields_nl {ops : Array Oper} {S : World → Prop} {op : Oper} {a : Act} (hw : Region.wanted op (yielded ops a.tmps) = true) (y : Operand) (ho : op.op = .load 31 y)
    (b : Nat) (hx : a.eval y = .pointer (some ⟨b, 0, none⟩)) (x : NL) (hS : ∀ w, S w → ∃ t, Has w b t x.cs) : YieldsIf Try.prog ops S op (.agg x.cs) a :=
  .inl ⟨hw, fun w hw' => by
    obtain ⟨t, h⟩ := hS w hw'
    unfold execOp
    simp only [ho, hx, Instr.loadAt, Instr.sureAddr, Sem.run_bind, Sem.run_pure, Result.andThen_ok, run_loadVar_row w b t 31 x.cs (0, 0) _ h Try.underlying31 rfl x.fit]⟩

/-- The map of codings: what its block holds. -/
abbrev cod (t : TypeId) : Value := .iface t (.agg #[])
def codes : Array MapEntry := #[⟨.int .i64 1, cod 91, 0⟩, ⟨.int .i64 2, cod 92, 1⟩, ⟨.int .i64 3, cod 93, 2⟩, ⟨.int .i64 4, cod 94, 3⟩, ⟨.int .i64 5, cod 95, 4⟩]
def MapAt (w : World) (b : Nat) (es : Array MapEntry) (n : Nat) : Prop := w.heap[b]? = some (.map es n)

theorem MapAt.lt {w : World} {b n : Nat} {es : Array MapEntry} (h : MapAt w b es n) : b < w.heap.size := by
  rcases Nat.lt_or_ge b w.heap.size with hl | hl
  · exact hl
  · unfold MapAt at h; rw [Array.getElem?_eq_none hl] at h; cases h
theorem MapAt.below {w w' : World} {b n : Nat} {es : Array MapEntry} (h : MapAt w b es n) (hb : Below w.heap.size w w') : MapAt w' b es n := (hb.block b h.lt).trans h

/-- One entry more. -/
theorem run_insert (w : World) (b n : Nat) (es : Array MapEntry) (h : MapAt w b es n) (k : Int) (hwf : (Lit.int .i64 k).wf = true) (v : Value) (hk : Instr.findNow (.int .i64) (.int .i64 k) es.toList 0 = some none) :
    ∃ w', (Instr.mapUpdate 58 (.map (some b)) (.int .i64 k) v).run Try.prog w = .ok () w' ∧ MapAt w' b (es.push ⟨.int .i64 k, v, n⟩) (n + 1) ∧ Only w b w' := by
  have hb : w.heap[b]? = some (.map es n) := h
  have hkey := Go.Maps.keyOf_int_mk (P := Try.prog) (k := 3) Try.underlying3 hwf
  have hch := (Go.Maps.int_keyed (P := Try.prog) Try.underlying3).check w false hkey
  refine ⟨ChangeMaps.setBlock w b (.map (es.push ⟨.int .i64 k, v, n⟩) (n + 1)), ?_, ChangeMaps.heap_setBlock_same hb _, ⟨rfl, rfl, rfl, by simp [ChangeMaps.setBlock], fun i _ hi => ChangeMaps.heap_setBlock_other hb _ (fun e => hi (by rw [e]))⟩⟩
  simp [Instr.mapUpdate, run_underlying Try.underlying58, run_underlying Try.underlying3, MapKept.run_getObj_map hb, hch, Instr.findKey, hk, MapKept.run_setObj_map _ hb, Result.andThen, ChangeMaps.setBlock]

theorem wpList_insert {w : World} {ops : Array Oper} {rest : List Oper} {o : Oper} {a : Act} {Q : Exit → Act → World → Prop} (hg : o.guard = none) (m x v : Operand) (t : TypeId) (hop : o.op = Op.insert t m x v)
    (vm vx vv : Value) (hm : a.eval m = vm) (hx : a.eval x = vx) (hv : a.eval v = vv) (w' : World) (hrun : (Instr.mapUpdate t vm vx vv).run Try.prog w = .ok () w') (hK : wpList Try.prog ops Q rest (a.put o.dst undef) w') :
    wpList Try.prog ops Q (o :: rest) a w := by
  refine wpList_plain hg fun K' hK' => ?_
  unfold Oper.wp
  simp [execOp, hop, hm, hx, hv, hrun, Result.andThen]
  exact hK' _ _ hK

end Go.Proofs.Ythhajknmokomjaa
