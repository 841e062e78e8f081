/- The rows of comm: what the laid table gives; arguments opened; the post. -/
import Derived.Test.YtofbgpgngplgpaaDoorCmF
import Derived.Deep.DeepHandedRow
import Derived.ProofKit
import Derived.OpenShut
import Derived.ChangeSame
import Derived.WideKeyArgs
import Derived.Lib.SmallJoins
import Derived.Lib.LaidU8
import Derived.LaidHandle
import Derived.Shelf.Vars
namespace Go.Proofs.YtofbgpgngplgpaaDoor
open Go.ChangeShapes Go.WideShapes Go.ChangeAt Go.RowKit Go.Joins
set_option linter.unusedVariables false

theorem laid : laidOutB Tryd.prog = true := by kernel_rfl
theorem own : ownKnob Tryd.prog.godebug = none := by kernel_rfl
theorem cellsComm : Tryd.prog.cellsOf 24 = 8 := by kernel_rfl
theorem cellsByte : Tryd.prog.cellsOf 5 = 1 := by kernel_rfl
theorem cellsInt : Tryd.prog.cellsOf 3 = 1 := by kernel_rfl
theorem cellsEl : Tryd.prog.cellsOf 71 = 3 := by kernel_rfl
theorem cellsTab : Tryd.prog.cellsOf 72 = 21 := by kernel_rfl

section
variable {H : Type} {enc : TypeId × Value → H} {P : Program}

/-- Arguments whose cells have not turned read as they did. -/
theorem all_stay (hl : laidOutB P = true) {W W' : World} {sp : Nat → Bool} : ∀ (ts : List TypeId) (vs : List Value) (ds : List (DataW H)) (ps : List MemPlace), (∀ t ∈ ts, P.readableRec t = true ∧ t < P.types.size) →
    DataW.TrodAll enc P W 0 (fun _ => true) true ts vs ds ps → (∀ p ∈ ps, W.sameAt W' p) → (∀ p ∈ ps, sp p.block = true) → DataW.TrodAll enc P W' 0 sp true ts vs ds ps
  | [], vs, ds, ps, _, h, _, _ => by
    obtain ⟨rfl, rfl, rfl⟩ := trodAll_nil h
    exact trodAll_mk0
  | t :: ts, vs, ds, ps, hts, h, hs, hb => by
    obtain ⟨v, vs', d, ds', p, q, rfl, rfl, rfl, h0, hr⟩ := trodAll_cons h
    obtain ⟨hread, hrow⟩ := hts t (by simp)
    exact trodAll_cons_mk (WideElems.Trod_stays hl hread hrow h0 (fun x hx => hs x (by simp [hx])) (fun x hx => hb x (by simp [hx])))
      (all_stay hl ts vs' ds' q (fun x hx => hts x (by simp [hx])) hr (fun x hx => hs x (by simp [hx])) (fun x hx => hb x (by simp [hx])))

theorem same_below {W W' : World} (hb : Below W.heap.size W W') (p : MemPlace) (hp : p.block < W.heap.size) : W.sameAt W' p := by
  cases p with
  | cell b o => exact hb.cell (p := ⟨b, o, none⟩) hp
  | map b => exact hb.block b hp

/-- The post of a law: it returned what it should, its arguments read as they did, nothing old has turned. -/
theorem post_fine {f : Func} {s : ChangeSpec} {apart fresh handsOn again : Bool} {W W' : World} {args : Array Value} {v : Value} {ds gs : List (DataW H)} {p q : List MemPlace}
    (hl : laidOutB P = true) (hts : ∀ t ∈ f.params.toList, P.readableRec t = true ∧ t < P.types.size)
    (hW : DataW.Whole enc P f.params.toList s.vars apart W args.toList ds gs (p ++ q)) (hA : DataW.TrodAll enc P W 0 (fun _ => true) true f.params.toList args.toList ds p)
    (hq : q = []) (hvs : ∀ sp : Nat → Bool, DataW.TrodVars enc P W' sp s.vars (s.fn H (ds ++ gs)).vars [])
    (hres : ∀ (b : Nat) (sp : Nat → Bool) (hd : Bool), DataW.TrodAll enc P W' b sp hd f.resultTypes.toList (v.resultList f.resultTypes.size) (s.fn H (ds ++ gs)).results [])
    (hsame : (s.fn H (ds ++ gs)).args = ds) (hb : Below W.heap.size W W')
    (hok : ∀ (j : Nat) (t : TypeId) (r : Value), f.resultTypes[j]? = some t → (v.resultList f.resultTypes.size)[j]? = some r → Value.okWide P W' .any 0 t r) :
    s.post enc P f apart fresh handsOn again W args v W' := by
  subst hq
  rw [List.append_nil] at hW
  have hlt : ∀ x ∈ p, x.block < W.heap.size := fun x hx => hW.lt x hx
  have hstay : ∀ sp : Nat → Bool, (∀ x ∈ p, sp x.block = true) → DataW.TrodAll enc P W' 0 sp true f.params.toList args.toList (s.fn H (ds ++ gs)).args p := fun sp hs => by
    rw [hsame]
    exact all_stay hl _ _ _ _ hts hA (fun x hx => same_below hb x (hlt x hx)) hs
  have hold : ∀ x ∈ p, (fun b => decide (b < W.heap.size)) x.block = true := fun x hx => by simpa using hlt x hx
  refine ⟨ds, gs, p, [], p, [], hW, hres _ _ _, hstay _ hold, hvs _, World.keptBut_mono (fun x hx => ⟨hx, .inr (.inl hx)⟩) (hb.frame (· ∈ p)), fun _ => ⟨hok, ?_⟩⟩
  obtain ⟨_, _, _, _, _, hz, hn⟩ := hW
  refine ⟨_, _, ([] ++ p) ++ [], ⟨[] ++ p, [], trodAll_append (hstay _ (fun _ _ => rfl)) (hres _ _ _), hvs _, rfl, ?_, ?_⟩, ?_⟩
  · intro b off hx
    have hin : MemPlace.cell b off ∈ p := by simpa using hx
    rw [hb.frozen (hlt _ hin)]
    exact hz b off hin
  · intro ha
    simpa using hn ha
  · intro x hx _
    simpa using hx

end



theorem l8 {α : Type} (l : List α) (h : l.length = 8) : ∃ a b c d e f g h : α, l = [a, b, c, d, e, f, g, h] := by
  match l, h with
  | [a, b, c, d, e, f, g, h], _ => exact ⟨a, b, c, d, e, f, g, h, rfl⟩

set_option maxRecDepth 100000 in
/-- A community by value, opened. -/
theorem open_comm {H : Type} {enc : TypeId × Value → H} {W : World} {r : Reach} {b0 base : Nat} {sp : Nat → Bool} {held : Bool} {v : Value} {d : DataW H} {p : List MemPlace}
    (hv : Value.okWide Tryd.prog W r b0 24 v) (h : DataW.Trod enc Tryd.prog W base sp held 24 v d p) :
    ∃ a b c e f g h i : Int, v = cm a b c e f g h i := by
  obtain ⟨cs, rfl, hsz, _⟩ : ∃ cs, v = .agg cs ∧ cs.size = Tryd.prog.cellsOf 24 ∧ Row.okWide Tryd.prog W r b0 24 cs := by
    simpa [Value.okWide, Tryd.underlying24] using hv
  rw [cellsComm] at hsz
  obtain ⟨l⟩ := cs
  obtain ⟨c0, c1, c2, c3, c4, c5, c6, c7, rfl⟩ := l8 l hsz
  obtain ⟨fuel, hf⟩ := h
  obtain ⟨xs, m, rfl, hx, _, hlen, hi⟩ := DataW.trod_array Tryd.underlying24 hf
  obtain ⟨y0, y1, y2, y3, y4, y5, y6, y7, rfl⟩ := l8 xs hlen
  rw [cellsByte] at hi
  have t0 := hi 0 (by omega)
  have t1 := hi 1 (by omega)
  have t2 := hi 2 (by omega)
  have t3 := hi 3 (by omega)
  have t4 := hi 4 (by omega)
  have t5 := hi 5 (by omega)
  have t6 := hi 6 (by omega)
  have t7 := hi 7 (by omega)
  clear hi
  simp [Value.cells] at t0 t1 t2 t3 t4 t5 t6 t7
  obtain ⟨a0, e0, rfl, w0⟩ := DataW.trod_int Tryd.underlying5 t0
  obtain ⟨a1, e1, rfl, w1⟩ := DataW.trod_int Tryd.underlying5 t1
  obtain ⟨a2, e2, rfl, w2⟩ := DataW.trod_int Tryd.underlying5 t2
  obtain ⟨a3, e3, rfl, w3⟩ := DataW.trod_int Tryd.underlying5 t3
  obtain ⟨a4, e4, rfl, w4⟩ := DataW.trod_int Tryd.underlying5 t4
  obtain ⟨a5, e5, rfl, w5⟩ := DataW.trod_int Tryd.underlying5 t5
  obtain ⟨a6, e6, rfl, w6⟩ := DataW.trod_int Tryd.underlying5 t6
  obtain ⟨a7, e7, rfl, w7⟩ := DataW.trod_int Tryd.underlying5 t7
  simp at e0 e1 e2 e3 e4 e5 e6 e7
  subst e0 e1 e2 e3 e4 e5 e6 e7
  exact ⟨a0, a1, a2, a3, a4, a5, a6, a7, rfl⟩

set_option maxRecDepth 100000 in
/-- One kind of the table. -/
theorem el3 {W : World} {m : Nat} {v0 v1 v2 : Value} {y : DataW Unit × List MemPlace} {p q r : Int} (h : DataW.trod (fun _ => ()) Tryd.prog W 0 (fun _ => true) false m 71 [v0, v1, v2] = some y)
    (hy : y.1 = .agg [.lit (.int .i64 p), .lit (.int .u8 q), .lit (.int .u8 r)]) : v0 = .int .i64 p ∧ v1 = .int .u8 q ∧ v2 = .int .u8 r := by
  obtain ⟨xs, k, rfl, hx, hl, hxl, hall⟩ := DataW.trod_struct Tryd.underlying71 h
  match xs, hxl with
  | [y0, y1, y2], _ =>
    rw [hx] at hy
    simp only [List.map_cons, List.map_nil, DataW.agg.injEq, List.cons.injEq, and_true] at hy
    obtain ⟨x0, x1, x2⟩ := hy
    have t0 := hall 0 _ rfl
    have t1 := hall 1 _ rfl
    have t2 := hall 2 _ rfl
    simp [cellsInt, cellsByte] at t0 t1 t2
    obtain ⟨a0, e0, rfl, _⟩ := DataW.trod_int Tryd.underlying3 t0
    obtain ⟨a1, e1, rfl, _⟩ := DataW.trod_int Tryd.underlying5 t1
    obtain ⟨a2, e2, rfl, _⟩ := DataW.trod_int Tryd.underlying5 t2
    simp at e0 e1 e2 x0 x1 x2
    subst e0 e1 e2 x0 x1 x2
    exact ⟨rfl, rfl, rfl⟩

set_option maxRecDepth 100000 in
/-- The table that the row lays. -/
theorem kinds_laid {W : World} (h : Lib.VarReads Tryd.prog W "leafmesh/comm.kinds" Rows.laid_leafmesh_comm_kinds) : GK W := by
  obtain ⟨g', t', cs, fuel, p, hg', ht', hvar, hd⟩ := h
  have hg : Tryd.prog.globalNamed "leafmesh/comm.kinds" = some 0 := by kernel_rfl
  have ht : (Tryd.prog.globals[0]?).map (·.type) = some 72 := by kernel_rfl
  obtain rfl := Option.some.inj (hg.symm.trans hg')
  obtain rfl := Option.some.inj (ht.symm.trans ht')
  obtain ⟨xs, m, rfl, hx, hl, hxl, hall⟩ := DataW.trod_array Tryd.underlying72 hd
  obtain ⟨cs⟩ := cs
  have hcl : cs.length = 21 := hl.trans cellsTab
  match cs, hcl with
  | [c0, c1, c2, c3, c4, c5, c6, c7, c8, c9, c10, c11, c12, c13, c14, c15, c16, c17, c18, c19, c20], _ =>
    match xs, hxl with
    | [y0, y1, y2, y3, y4, y5, y6], _ =>
      rw [cellsEl] at hall
      have t0 := hall 0 (by omega)
      have t1 := hall 1 (by omega)
      have t2 := hall 2 (by omega)
      have t3 := hall 3 (by omega)
      have t4 := hall 4 (by omega)
      have t5 := hall 5 (by omega)
      have t6 := hall 6 (by omega)
      clear hall
      simp at t0 t1 t2 t3 t4 t5 t6
      have hx1 := congrArg Prod.fst hx
      simp only [Rows.laid_leafmesh_comm_kinds, List.map_cons, List.map_nil, DataW.agg.injEq, List.cons.injEq, and_true] at hx1
      obtain ⟨x0, x1, x2, x3, x4, x5, x6⟩ := hx1
      obtain ⟨rfl, rfl, rfl⟩ := el3 t0 x0.symm
      obtain ⟨rfl, rfl, rfl⟩ := el3 t1 x1.symm
      obtain ⟨rfl, rfl, rfl⟩ := el3 t2 x2.symm
      obtain ⟨rfl, rfl, rfl⟩ := el3 t3 x3.symm
      obtain ⟨rfl, rfl, rfl⟩ := el3 t4 x4.symm
      obtain ⟨rfl, rfl, rfl⟩ := el3 t5 x5.symm
      obtain ⟨rfl, rfl, rfl⟩ := el3 t6 x6.symm
      simp only [World.var?, hg, Option.bind_some] at hvar
      split at hvar
      · rename_i cs' t fr hh
        injection hvar with hvar
        subst hvar
        exact ⟨t, fr, hh⟩
      · cases hvar

/-- The numbers of a laid datum, as cells. -/
def litCell : DataW Unit → Value
  | .lit (.int k z) => .int k z
  | .lit (.bool b) => .bool b
  | _ => .bool false
def cellsOf : DataW Unit → List Value
  | .agg l => l.flatMap fun
    | .agg l' => l'.map litCell
    | d => [litCell d]
  | _ => []

def layAt (g : Nat) (d : DataW Unit) (h : Array Obj) : Array Obj := h.modify g fun
  | .cells _ t frozen => .cells (cellsOf d).toArray t frozen
  | o => o

noncomputable def laidWorld (os : Os) : World :=
  let w0 := World.holding Tryd.prog os ⟨#[], #[], []⟩
  { w0 with heap := layAt 0 Rows.laid_leafmesh_comm_kinds w0.heap }

end Go.Proofs.YtofbgpgngplgpaaDoor
