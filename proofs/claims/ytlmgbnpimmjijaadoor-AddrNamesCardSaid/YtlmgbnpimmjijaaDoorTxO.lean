/- AddrTexts, AddrNames: what the laid variables give; arguments opened; the post. -/
import Derived.Test.YtlmgbnpimmjijaaDoorWalkB
import Derived.Deep.DeepHandedRow
import Derived.ProofKit
import Derived.OpenShut
import Derived.ChangeSame
import Derived.WideKeyArgs
import Derived.Lib.SmallJoins
import Derived.Lib.LaidU8
import Derived.LaidHandle
import Derived.Shelf.Vars
namespace Go.Proofs.YtlmgbnpimmjijaaDoor
open Go.ChangeShapes Go.WideShapes Go.ChangeAt Go.RowKit Go.Joins
set_option linter.unusedVariables false

theorem laid : laidOutB Tryd.prog = true := by kernel_rfl
theorem own : ownKnob Tryd.prog.godebug = none := by kernel_rfl
theorem cellsPfx : Tryd.prog.cellsOf 35 = 2 := by kernel_rfl
theorem cellsEsi : Tryd.prog.cellsOf 39 = 10 := by kernel_rfl
theorem cellsByte : Tryd.prog.cellsOf 5 = 1 := by kernel_rfl
theorem cellsInt : Tryd.prog.cellsOf 3 = 1 := by kernel_rfl
theorem cellsBool : Tryd.prog.cellsOf 4 = 1 := by kernel_rfl

section
variable {H : Type} {enc : TypeId × Value → H} {P : Program}

/-- Arguments whose cells have not turned read as they did. -/
theorem all_stay (hl : laidOutB P = true) {W W' : World} {sp : Nat → Bool} : ∀ (ts : List TypeId) (vs : List Value) (ds : List (DataW H)) (ps : List MemPlace), (∀ t ∈ ts, P.readableRec t = true ∧ t < P.types.size) →
    DataW.TrodAll enc P W 0 (fun _ => true) true ts vs ds ps → (∀ p ∈ ps, W.sameAt W' p) → (∀ p ∈ ps, sp p.block = true) → DataW.TrodAll enc P W' 0 sp true ts vs ds ps
  | [], vs, ds, ps, _, h, _, _ => by
    obtain ⟨rfl, rfl, rfl⟩ := trodAll_nil h
    exact trodAll_mk0
  | t :: ts, vs, ds, ps, hts, h, hs, hb => by
    obtain ⟨v, vs', d, ds', p, q, rfl, rfl, rfl, h0, hr⟩ := trodAll_cons h
    obtain ⟨hread, hrow⟩ := hts t (by simp)
    exact trodAll_cons_mk (WideElems.Trod_stays hl hread hrow h0 (fun x hx => hs x (by simp [hx])) (fun x hx => hb x (by simp [hx])))
      (all_stay hl ts vs' ds' q (fun x hx => hts x (by simp [hx])) hr (fun x hx => hs x (by simp [hx])) (fun x hx => hb x (by simp [hx])))

theorem same_below {W W' : World} (hb : Below W.heap.size W W') (p : MemPlace) (hp : p.block < W.heap.size) : W.sameAt W' p := by
  cases p with
  | cell b o => exact hb.cell (p := ⟨b, o, none⟩) hp
  | map b => exact hb.block b hp

/-- The post of a law: it returned what it should, its arguments read as they did, nothing old has turned. -/
theorem post_fine {f : Func} {s : ChangeSpec} {apart fresh handsOn again : Bool} {W W' : World} {args : Array Value} {v : Value} {ds gs : List (DataW H)} {p q : List MemPlace}
    (hl : laidOutB P = true) (hts : ∀ t ∈ f.params.toList, P.readableRec t = true ∧ t < P.types.size)
    (hW : DataW.Whole enc P f.params.toList s.vars apart W args.toList ds gs (p ++ q)) (hA : DataW.TrodAll enc P W 0 (fun _ => true) true f.params.toList args.toList ds p)
    (hq : q = []) (hvs : ∀ sp : Nat → Bool, DataW.TrodVars enc P W' sp s.vars (s.fn H (ds ++ gs)).vars [])
    (hres : ∀ (b : Nat) (sp : Nat → Bool) (hd : Bool), DataW.TrodAll enc P W' b sp hd f.resultTypes.toList (v.resultList f.resultTypes.size) (s.fn H (ds ++ gs)).results [])
    (hsame : (s.fn H (ds ++ gs)).args = ds) (hb : Below W.heap.size W W')
    (hok : ∀ (j : Nat) (t : TypeId) (r : Value), f.resultTypes[j]? = some t → (v.resultList f.resultTypes.size)[j]? = some r → Value.okWide P W' .any 0 t r) :
    s.post enc P f apart fresh handsOn again W args v W' := by
  subst hq
  rw [List.append_nil] at hW
  have hlt : ∀ x ∈ p, x.block < W.heap.size := fun x hx => hW.lt x hx
  have hstay : ∀ sp : Nat → Bool, (∀ x ∈ p, sp x.block = true) → DataW.TrodAll enc P W' 0 sp true f.params.toList args.toList (s.fn H (ds ++ gs)).args p := fun sp hs => by
    rw [hsame]
    exact all_stay hl _ _ _ _ hts hA (fun x hx => same_below hb x (hlt x hx)) hs
  have hold : ∀ x ∈ p, (fun b => decide (b < W.heap.size)) x.block = true := fun x hx => by simpa using hlt x hx
  refine ⟨ds, gs, p, [], p, [], hW, hres _ _ _, hstay _ hold, hvs _, World.keptBut_mono (fun x hx => ⟨hx, .inr (.inl hx)⟩) (hb.frame (· ∈ p)), fun _ => ⟨hok, ?_⟩⟩
  obtain ⟨_, _, _, _, _, hz, hn⟩ := hW
  refine ⟨_, _, ([] ++ p) ++ [], ⟨[] ++ p, [], trodAll_append (hstay _ (fun _ _ => rfl)) (hres _ _ _), hvs _, rfl, ?_, ?_⟩, ?_⟩
  · intro b off hx
    have hin : MemPlace.cell b off ∈ p := by simpa using hx
    rw [hb.frozen (hlt _ hin)]
    exact hz b off hin
  · intro ha
    simpa using hn ha
  · intro x hx _
    simpa using hx

end


theorem l10 {α : Type} (l : List α) (h : l.length = 10) : ∃ a b c d e f g h i j : α, l = [a, b, c, d, e, f, g, h, i, j] := by
  match l, h with
  | [a, b, c, d, e, f, g, h, i, j], _ => exact ⟨a, b, c, d, e, f, g, h, i, j, rfl⟩

set_option maxRecDepth 100000 in
/-- A prefix by value, opened. -/
theorem open_pfx {H : Type} {enc : TypeId × Value → H} {W : World} {r : Reach} {b0 base : Nat} {sp : Nat → Bool} {held : Bool} {v : Value} {d : DataW H} {p : List MemPlace}
    (hv : Value.okWide Tryd.prog W r b0 35 v) (h : DataW.Trod enc Tryd.prog W base sp held 35 v d p) :
    ∃ a b : Int, v = pfx a b ∧ (Lit.int .u32 a).wf = true ∧ (Lit.int .i64 b).wf = true := by
  obtain ⟨c0, c1, y0, y1, m, rfl, rfl, rfl, hy0, hy1⟩ := open_agg2 Tryd.underlying35 (by kernel_rfl) cellsPfx hv h
  obtain ⟨a, e0, rfl, wa⟩ := DataW.trod_int Tryd.underlying24 hy0
  obtain ⟨b, e1, rfl, wb⟩ := DataW.trod_int Tryd.underlying3 hy1
  simp at e0 e1
  subst e0 e1
  exact ⟨a, b, rfl, wa, wb⟩

set_option maxRecDepth 100000 in
/-- An identifier by value, opened. -/
theorem open_esi {H : Type} {enc : TypeId × Value → H} {W : World} {r : Reach} {b0 base : Nat} {sp : Nat → Bool} {held : Bool} {v : Value} {d : DataW H} {p : List MemPlace}
    (hv : Value.okWide Tryd.prog W r b0 39 v) (h : DataW.Trod enc Tryd.prog W base sp held 39 v d p) :
    ∃ a b c e f g h i j k : Int, v = esi a b c e f g h i j k ∧ (∀ x ∈ [a, b, c, e, f, g, h, i, j, k], (Lit.int .u8 x).wf = true) := by
  obtain ⟨cs, rfl, hsz, _⟩ : ∃ cs, v = .agg cs ∧ cs.size = Tryd.prog.cellsOf 39 ∧ Row.okWide Tryd.prog W r b0 39 cs := by
    simpa [Value.okWide, Tryd.underlying39] using hv
  rw [cellsEsi] at hsz
  obtain ⟨l⟩ := cs
  obtain ⟨c0, c1, c2, c3, c4, c5, c6, c7, c8, c9, rfl⟩ := l10 l hsz
  obtain ⟨fuel, hf⟩ := h
  obtain ⟨xs, m, rfl, hx, _, hlen, hi⟩ := DataW.trod_array Tryd.underlying39 hf
  obtain ⟨y0, y1, y2, y3, y4, y5, y6, y7, y8, y9, rfl⟩ := l10 xs hlen
  rw [cellsByte] at hi
  have t0 := hi 0 (by omega)
  have t1 := hi 1 (by omega)
  have t2 := hi 2 (by omega)
  have t3 := hi 3 (by omega)
  have t4 := hi 4 (by omega)
  have t5 := hi 5 (by omega)
  have t6 := hi 6 (by omega)
  have t7 := hi 7 (by omega)
  have t8 := hi 8 (by omega)
  have t9 := hi 9 (by omega)
  clear hi
  simp [Value.cells] at t0 t1 t2 t3 t4 t5 t6 t7 t8 t9
  obtain ⟨a0, e0, rfl, w0⟩ := DataW.trod_int Tryd.underlying5 t0
  obtain ⟨a1, e1, rfl, w1⟩ := DataW.trod_int Tryd.underlying5 t1
  obtain ⟨a2, e2, rfl, w2⟩ := DataW.trod_int Tryd.underlying5 t2
  obtain ⟨a3, e3, rfl, w3⟩ := DataW.trod_int Tryd.underlying5 t3
  obtain ⟨a4, e4, rfl, w4⟩ := DataW.trod_int Tryd.underlying5 t4
  obtain ⟨a5, e5, rfl, w5⟩ := DataW.trod_int Tryd.underlying5 t5
  obtain ⟨a6, e6, rfl, w6⟩ := DataW.trod_int Tryd.underlying5 t6
  obtain ⟨a7, e7, rfl, w7⟩ := DataW.trod_int Tryd.underlying5 t7
  obtain ⟨a8, e8, rfl, w8⟩ := DataW.trod_int Tryd.underlying5 t8
  obtain ⟨a9, e9, rfl, w9⟩ := DataW.trod_int Tryd.underlying5 t9
  simp at e0 e1 e2 e3 e4 e5 e6 e7 e8 e9
  subst e0 e1 e2 e3 e4 e5 e6 e7 e8 e9
  exact ⟨a0, a1, a2, a3, a4, a5, a6, a7, a8, a9, rfl, by simp [w0, w1, w2, w3, w4, w5, w6, w7, w8, w9]⟩

set_option maxRecDepth 100000 in
/-- A notation that the row lays: its cells. -/
theorem nota_cells {W : World} {n : String} {g : Nat} {b l m lim : Int} {pad : Bool} (hg : Tryd.prog.globalNamed n = some g) (ht : (Tryd.prog.globals[g]?).map (·.type) = some 63)
    (h : Lib.VarReads Tryd.prog W n (.agg [.lit (.int .i64 b), .lit (.int .i64 l), .lit (.int .i64 m), .lit (.bool pad), .lit (.int .i64 lim)])) :
    W.cell? ⟨g, 0, none⟩ = some (.int .i64 b) ∧ W.cell? ⟨g, 1, none⟩ = some (.int .i64 l) ∧ W.cell? ⟨g, 2, none⟩ = some (.int .i64 m) ∧ W.cell? ⟨g, 3, none⟩ = some (.bool pad) ∧ W.cell? ⟨g, 4, none⟩ = some (.int .i64 lim) := by
  obtain ⟨g', t', cs, fuel, p, hg', ht', hvar, hd⟩ := h
  obtain rfl := Option.some.inj (hg.symm.trans hg')
  obtain rfl := Option.some.inj (ht.symm.trans ht')
  obtain ⟨xs, k, rfl, hx, hl, hxl, hall⟩ := DataW.trod_struct Tryd.underlying63 hd
  obtain ⟨cs⟩ := cs
  have hcl : cs.length = 5 := hl.trans (by kernel_rfl)
  match cs, hcl with
  | [c0, c1, c2, c3, c4], _ =>
    match xs, hxl with
    | [y0, y1, y2, y3, y4], _ =>
      simp only [List.map_cons, List.map_nil, Prod.mk.injEq, DataW.agg.injEq, List.cons.injEq, and_true] at hx
      obtain ⟨⟨x0, x1, x2, x3, x4⟩, _⟩ := hx
      have t0 := hall 0 _ rfl
      have t1 := hall 1 _ rfl
      have t2 := hall 2 _ rfl
      have t3 := hall 3 _ rfl
      have t4 := hall 4 _ rfl
      simp [cellsInt, cellsBool] at t0 t1 t2 t3 t4
      obtain ⟨a0, e0, rfl, _⟩ := DataW.trod_int Tryd.underlying3 t0
      obtain ⟨a1, e1, rfl, _⟩ := DataW.trod_int Tryd.underlying3 t1
      obtain ⟨a2, e2, rfl, _⟩ := DataW.trod_int Tryd.underlying3 t2
      obtain ⟨a3, e3, rfl⟩ := DataW.trod_bool Tryd.underlying4 t3
      obtain ⟨a4, e4, rfl, _⟩ := DataW.trod_int Tryd.underlying3 t4
      simp at e0 e1 e2 e3 e4 x0 x1 x2 x3 x4
      subst e0 e1 e2 e3 e4 x0 x1 x2 x3 x4
      have hv := World.var?_cell hg hvar
      exact ⟨by simpa using hv 0, by simpa using hv 1, by simpa using hv 2, by simpa using hv 3, by simpa using hv 4⟩

end Go.Proofs.YtlmgbnpimmjijaaDoor
