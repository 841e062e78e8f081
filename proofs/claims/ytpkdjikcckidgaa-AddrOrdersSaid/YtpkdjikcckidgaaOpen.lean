/- Identifiers and prefixes as arguments: read and read again. -/
import Derived.Test.YtpkdjikcckidgaaBase
import Derived.ProofKit
import Derived.OpenShut
import Derived.ChangeSame
import Derived.Lib.SmallJoins
namespace Go.Proofs.Ytpkdjikcckidgaa
open Go.ChangeShapes Go.WideShapes Go.ChangeAt Go.RowKit Go.Joins

theorem cells25 : Try.prog.cellsOf 25 = 2 := by kernel_rfl
theorem cells34 : Try.prog.cellsOf 34 = 10 := by kernel_rfl
theorem cells5 : Try.prog.cellsOf 5 = 1 := by kernel_rfl

theorem list10 {α : Type} (l : List α) (h : l.length = 10) : ∃ a b c d e f g h i j, l = [a, b, c, d, e, f, g, h, i, j] := by
  match l, h with
  | [a, b, c, d, e, f, g, h, i, j], _ => exact ⟨a, b, c, d, e, f, g, h, i, j, rfl⟩

/-- A prefix by value, opened. -/
theorem open_pfx {H : Type} {enc : TypeId × Value → H} {W : World} {r : Reach} {b0 base : Nat} {sp : Nat → Bool} {held : Bool} {v : Value} {d : DataW H} {p : List MemPlace}
    (hv : Value.okWide Try.prog W r b0 25 v) (h : DataW.Trod enc Try.prog W base sp held 25 v d p) :
    ∃ a b : Int, v = .agg #[.int .u32 a, .int .i64 b] ∧ d = .agg [.lit (.int .u32 a), .lit (.int .i64 b)] ∧ p = [] ∧ (Lit.int .u32 a).wf = true ∧ (Lit.int .i64 b).wf = true := by
  obtain ⟨c0, c1, y0, y1, m, rfl, rfl, rfl, hy0, hy1⟩ := open_agg2 Try.underlying25 (by kernel_rfl) cells25 hv h
  obtain ⟨a, e0, rfl, wa⟩ := DataW.trod_int Try.underlying23 hy0
  obtain ⟨b, e1, rfl, wb⟩ := DataW.trod_int Try.underlying3 hy1
  simp at e0 e1
  subst e0 e1
  exact ⟨a, b, rfl, rfl, rfl, wa, wb⟩

theorem shut_pfx {H : Type} {enc : TypeId × Value → H} {W : World} {base : Nat} {sp : Nat → Bool} {held : Bool} {a b : Int} (wa : (Lit.int .u32 a).wf = true) (wb : (Lit.int .i64 b).wf = true) :
    DataW.Trod enc Try.prog W base sp held 25 (.agg #[.int .u32 a, .int .i64 b]) (.agg [.lit (.int .u32 a), .lit (.int .i64 b)]) [] :=
  shut_agg2 (y0 := (.lit (.int .u32 a), [])) (y1 := (.lit (.int .i64 b), [])) Try.underlying25 (by kernel_rfl) cells25 ⟨1, by simp [DataW.trod, Try.underlying23, wa]⟩ ⟨1, by simp [DataW.trod, Try.underlying3, wb]⟩

/-- The datum of an identifier. -/
def esiD (H : Type) (l : List Int) : DataW H := .agg (l.map fun x => .lit (.int .u8 x))

/-- An identifier by value, opened. -/
theorem open_esi {H : Type} {enc : TypeId × Value → H} {W : World} {r : Reach} {b0 base : Nat} {sp : Nat → Bool} {held : Bool} {v : Value} {d : DataW H} {p : List MemPlace}
    (hv : Value.okWide Try.prog W r b0 34 v) (h : DataW.Trod enc Try.prog W base sp held 34 v d p) :
    ∃ a b c e f g h i j k : Int, v = esi a b c e f g h i j k ∧ d = esiD H [a, b, c, e, f, g, h, i, j, k] ∧ p = [] ∧ (∀ x ∈ [a, b, c, e, f, g, h, i, j, k], (Lit.int .u8 x).wf = true) := by
  obtain ⟨cs, rfl, hsz, _⟩ : ∃ cs, v = .agg cs ∧ cs.size = Try.prog.cellsOf 34 ∧ Row.okWide Try.prog W r b0 34 cs := by
    simpa [Value.okWide, Try.underlying34] using hv
  rw [cells34] at hsz
  obtain ⟨l⟩ := cs
  obtain ⟨c0, c1, c2, c3, c4, c5, c6, c7, c8, c9, rfl⟩ := list10 l hsz
  obtain ⟨fuel, hf⟩ := h
  obtain ⟨xs, m, rfl, hx, _, hlen, hi⟩ := DataW.trod_array Try.underlying34 hf
  obtain ⟨y0, y1, y2, y3, y4, y5, y6, y7, y8, y9, rfl⟩ := list10 xs hlen
  rw [cells5] at hi
  have t0 := hi 0 (by omega)
  have t1 := hi 1 (by omega)
  have t2 := hi 2 (by omega)
  have t3 := hi 3 (by omega)
  have t4 := hi 4 (by omega)
  have t5 := hi 5 (by omega)
  have t6 := hi 6 (by omega)
  have t7 := hi 7 (by omega)
  have t8 := hi 8 (by omega)
  have t9 := hi 9 (by omega)
  clear hi
  simp [Value.cells] at t0 t1 t2 t3 t4 t5 t6 t7 t8 t9
  obtain ⟨a0, e0, rfl, w0⟩ := DataW.trod_int Try.underlying5 t0
  obtain ⟨a1, e1, rfl, w1⟩ := DataW.trod_int Try.underlying5 t1
  obtain ⟨a2, e2, rfl, w2⟩ := DataW.trod_int Try.underlying5 t2
  obtain ⟨a3, e3, rfl, w3⟩ := DataW.trod_int Try.underlying5 t3
  obtain ⟨a4, e4, rfl, w4⟩ := DataW.trod_int Try.underlying5 t4
  obtain ⟨a5, e5, rfl, w5⟩ := DataW.trod_int Try.underlying5 t5
  obtain ⟨a6, e6, rfl, w6⟩ := DataW.trod_int Try.underlying5 t6
  obtain ⟨a7, e7, rfl, w7⟩ := DataW.trod_int Try.underlying5 t7
  obtain ⟨a8, e8, rfl, w8⟩ := DataW.trod_int Try.underlying5 t8
  obtain ⟨a9, e9, rfl, w9⟩ := DataW.trod_int Try.underlying5 t9
  simp at e0 e1 e2 e3 e4 e5 e6 e7 e8 e9
  subst e0 e1 e2 e3 e4 e5 e6 e7 e8 e9
  simp only [Prod.mk.injEq] at hx
  obtain ⟨rfl, rfl⟩ := hx
  exact ⟨a0, a1, a2, a3, a4, a5, a6, a7, a8, a9, rfl, rfl, rfl, by simp [w0, w1, w2, w3, w4, w5, w6, w7, w8, w9]⟩

theorem shut_esi {H : Type} {enc : TypeId × Value → H} {W : World} {base : Nat} {sp : Nat → Bool} {held : Bool} {a b c e f g h i j k : Int} (hw : ∀ x ∈ [a, b, c, e, f, g, h, i, j, k], (Lit.int .u8 x).wf = true) :
    DataW.Trod enc Try.prog W base sp held 34 (esi a b c e f g h i j k) (esiD H [a, b, c, e, f, g, h, i, j, k]) [] := by
  simp only [List.mem_cons, List.not_mem_nil, or_false, forall_eq_or_imp, forall_eq] at hw
  obtain ⟨w0, w1, w2, w3, w4, w5, w6, w7, w8, w9⟩ := hw
  exact ⟨2, by simp [DataW.trod, esiD, Value.cells, Try.underlying34, Try.underlying5, cells34, cells5, w0, w1, w2, w3, w4, w5, w6, w7, w8, w9, show List.range 10 = [0, 1, 2, 3, 4, 5, 6, 7, 8, 9] from rfl]⟩

/-- The post of a row whose arguments lead to no memory: the world is as it was below the old heap's end. -/
theorem post_flat {H : Type} {enc : TypeId × Value → H} {P : Program} {f : Func} {s : ChangeSpec} {apart fresh handsOn again : Bool} {W W' : World} {args : Array Value} {v : Value} {ds gs : List (DataW H)}
    (hW : DataW.Whole enc P f.params.toList s.vars apart W args.toList ds gs [])
    (hres : ∀ (b : Nat) (sp : Nat → Bool) (hd : Bool), DataW.TrodAll enc P W' b sp hd f.resultTypes.toList (v.resultList f.resultTypes.size) (s.fn H (ds ++ gs)).results [])
    (hargs : ∀ sp : Nat → Bool, DataW.TrodAll enc P W' 0 sp true f.params.toList args.toList (s.fn H (ds ++ gs)).args [])
    (hvars : ∀ sp : Nat → Bool, DataW.TrodVars enc P W' sp s.vars (s.fn H (ds ++ gs)).vars [])
    (hb : Below W.heap.size W W')
    (hok : ∀ (j : Nat) (t : TypeId) (r : Value), f.resultTypes[j]? = some t → (v.resultList f.resultTypes.size)[j]? = some r → Value.okWide P W' .any 0 t r) :
    s.post enc P f apart fresh handsOn again W args v W' := by
  have hall := trodAll_append (hargs (fun _ => true)) (hres 0 (fun _ => true) true)
  simp only [List.append_nil] at hall
  refine ⟨ds, gs, [], [], [], [], hW, hres _ _ _, hargs _, hvars _, World.keptBut_mono (fun p hp => absurd hp id) (hb.frame (fun _ => False)), fun _ => ⟨hok, _, _, [], ⟨[], [], hall, hvars _, rfl, ?_, ?_⟩, ?_⟩⟩
  · intro b off hp
    simp at hp
  · intro _
    simp
  · intro p hp
    simp at hp

end Go.Proofs.Ytpkdjikcckidgaa
