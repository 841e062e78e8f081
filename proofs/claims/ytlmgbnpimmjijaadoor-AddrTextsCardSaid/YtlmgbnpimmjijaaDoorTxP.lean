/- AddrTexts: the law returns true. No condition; the listed variables as the text lays them. -/
import Derived.Test.YtlmgbnpimmjijaaDoorTxO
import Derived.Test.YtlmgbnpimmjijaaDoorWalkE
import Derived.Test.YtlmgbnpimmjijaaDoorWalkA
namespace Go.Proofs.YtlmgbnpimmjijaaDoor.addrTexts
open Go.ChangeShapes Go.WideShapes Go.ChangeAt Go.RowKit Go.Joins
set_option linter.unusedVariables false

/-- The numbers of a laid datum, as cells. -/
def cellsOf : DataW Unit → List Value
  | .agg l => l.map fun
    | .lit (.int k z) => .int k z
    | .lit (.bool b) => .bool b
    | _ => .bool false
  | _ => []

def layAt (g : Nat) (d : DataW Unit) (h : Array Obj) : Array Obj := h.modify g fun
  | .cells _ t frozen => .cells (cellsOf d).toArray t frozen
  | o => o

noncomputable def laidWorld (os : Os) : World :=
  let w0 := World.holding Tryd.prog os ⟨#[], #[], []⟩
  let h1 := layAt 0 Rows.laid_leafmesh_addr_decimalByte w0.heap
  let h2 := layAt 1 Rows.laid_leafmesh_addr_prefixLen h1
  let h3 := layAt 2 Rows.laid_leafmesh_addr_hexByte h2
  let h4 := layAt 4 Rows.laid_internal_strconv_uint64pow10 h3
  let h5 := layAt 5 Rows.laid_math_bits_deBruijn32tab h4
  { w0 with heap := layAt 6 Rows.laid_math_bits_deBruijn64tab h5 }

def args0 : Array Value := #[.int .u32 0, .int .u64 0, pfx 0 0, esi 0 0 0 0 0 0 0 0 0 0, .string ByteArray.empty]

theorem laid_met (os : Os) : laidMet Tryd.prog Rows.addrTextsRow.laid ((laidWorld os).forCall (fun _ _ => 0) ⟨#[], args0, []⟩).memory :=
  laidMet_of_run' 8 (by kernel_rfl) (by kernel_rfl)

abbrev spec : OpenSpec := OpenSpec.ofChange Rows.addrTextsSpec
noncomputable abbrev fn := Tryd.f4

theorem witness_row (os : Os) {H : Type} (enc : TypeId × Value → H) :
    spec.preRow enc Tryd.prog fn Rows.addrTextsRow.domain false Rows.addrTextsRow.laid ((laidWorld os).forCall (fun _ _ => 0) ⟨#[], args0, []⟩).memory args0 := by
  have hw : (DataW.whole enc Tryd.prog ((laidWorld os).forCall (fun _ _ => 0) ⟨#[], args0, []⟩).memory fn.params.toList spec.vars false args0.toList 8).map (fun x => (x.1, x.2.1)) =
      some ([.lit (.int .u32 0), .lit (.int .u64 0), .agg [.lit (.int .u32 0), .lit (.int .i64 0)], .agg (List.replicate 10 (.lit (.int .u8 0))), .lit (.string [])], []) := by kernel_rfl
  obtain ⟨⟨x1, x2, x3⟩, hx, hx1⟩ := Option.map_eq_some_iff.1 hw
  simp only [Prod.mk.injEq] at hx1
  obtain ⟨rfl, rfl⟩ := hx1
  exact OpenSpec.preRow_of_cond 8 hx (by kernel_rfl) (fun k hk => by cases hk) (by kernel_rfl) (laid_met os)

theorem tab_of_reads {P : Program} {W : World} {name : String} {k : IntKind} {zs : List Int} {g : Nat} {t e : TypeId} {n : Nat}
    (hg : P.globalNamed name = some g) (hty : (P.globals[g]?).map (·.type) = some t) (ht : P.underlying t = some (.array n e)) (he : P.underlying e = some (.int k)) (hce : P.cellsOf e = 1) (hct : P.cellsOf t = n)
    (h : Lib.VarReads P W name (Lib.tabData k zs)) : Lib.TabIs P W name k zs := by
  obtain ⟨g', t', cs, fuel, p, hg', ht', hvar, hd⟩ := h
  obtain rfl := Option.some.inj (hg.symm.trans hg')
  obtain rfl := Option.some.inj (hty.symm.trans ht')
  unfold Lib.TabIs
  rw [hvar, ← Lib.cells_of_tab ht he hce hct hd]

theorem pow_eq : (Rows.laid_internal_strconv_uint64pow10 : DataW Unit) = Lib.tabData .u64 Lib.pow10Tab := by kernel_rfl

set_option maxRecDepth 100000 in
theorem maxLen_cell {W : World} (h : W.ShapedOpen Tryd.prog) : ∃ m, W.cell? ⟨3, 0, none⟩ = some (.int .i64 m) :=
  cell_of_shapedOpen_int (zero := #[.int .i64 0]) (t := 3) h (by decide +kernel) (by kernel_rfl) rfl (by kernel_rfl) (by kernel_rfl) Tryd.underlying3

set_option maxRecDepth 100000 in
theorem globs {W : World} (hL : laidMet Tryd.prog Rows.addrTextsRow.laid W) (hsh : W.ShapedOpen Tryd.prog) : Glb W := by
  obtain ⟨m, hm⟩ := maxLen_cell hsh
  obtain ⟨d0, d1, d2, d3, d4⟩ := nota_cells (n := "leafmesh/addr.decimalByte") (g := 0) (by kernel_rfl) (by kernel_rfl) (Lib.laidMet.reads hL (.tail _ (.tail _ (.tail _ (.tail _ (.head _))))))
  obtain ⟨p0, p1, p2, p3, p4⟩ := nota_cells (n := "leafmesh/addr.prefixLen") (g := 1) (by kernel_rfl) (by kernel_rfl) (Lib.laidMet.reads hL (.tail _ (.tail _ (.tail _ (.tail _ (.tail _ (.head _)))))))
  obtain ⟨h0, h1, h2, h3, h4⟩ := nota_cells (n := "leafmesh/addr.hexByte") (g := 2) (by kernel_rfl) (by kernel_rfl) (Lib.laidMet.reads hL (.tail _ (.tail _ (.tail _ (.head _)))))
  have hT : Lib.TabIs Tryd.prog W "internal/strconv.uint64pow10" .u64 Lib.pow10Tab := by
    have h := Lib.laidMet.reads hL (n := "internal/strconv.uint64pow10") (d := Rows.laid_internal_strconv_uint64pow10) (.tail _ (.tail _ (.head _)))
    rw [pow_eq] at h
    exact tab_of_reads (g := 4) (t := 111) (by kernel_rfl) (by kernel_rfl) Tryd.underlying111 Tryd.underlying28 (by kernel_rfl) (by kernel_rfl) h
  exact ⟨hT, ⟨d0, d1, d2, d3, d4, m, hm⟩, ⟨h0, h1, h2, h3, h4, m, hm⟩, ⟨p0, p1, p2, p3, p4⟩⟩

theorem vars_none (H : Type) (ds : List (DataW H)) (F : Stop.Interp) : ((spec.at F).fn H ds).vars = [] := by
  rcases ds with _ | ⟨_, _ | ⟨_, _ | ⟨_, _ | ⟨_, _ | ⟨_, _ | _⟩⟩⟩⟩⟩ <;> rfl

set_option maxRecDepth 100000 in
set_option maxHeartbeats 2000000 in
theorem lifted (os : Os) (started : os.Started) (H : Type) (enc : TypeId × Value → H) (F : Stop.Interp) :
    ReturnsInHanded {} Tryd.checked os 4 .any (spec.preRow enc Tryd.prog fn Rows.addrTextsRow.domain false Rows.addrTextsRow.laid) ((spec.at F).post enc Tryd.prog fn false true false false) := by
  refine returnsInHanded_of_row (C := Tryd.checked) (s := spec) own started (by kernel_rfl) Tryd.func4
    (witness_row_at (enc := enc) (C := Tryd.checked) false (laidWorld os) args0 rfl (by kernel_rfl) (by kernel_rfl) (by kernel_rfl) (witness_row os enc)) ?_
  intro W base args ds gs before hval0 hW hcond0 _ hsz0 hL hsh _
  clear hcond0 hsz0
  have hG : Glb W := globs hL hsh
  have hval : ∀ (j : Nat) t v, fn.params[j]? = some t → args[j]? = some v → Value.okWide Tryd.prog W .any base t v := hval0
  clear hval0
  have hW' := hW
  obtain ⟨p, q, hA0, hV, rfl, hfz, hnd⟩ := hW
  have hA1 : DataW.TrodAll enc Tryd.prog W 0 (fun _ => true) true fn.params.toList args.toList ds p := hA0
  clear hA0
  have hA := hA1
  rw [Tryd.params4] at hA hval
  obtain ⟨v0, vs, d0, es, p0, q0, e0, rfl, rfl, h0, hA⟩ := trodAll_cons hA
  obtain ⟨v1, vs, d1, es, p1, q1, rfl, rfl, rfl, h1, hA⟩ := trodAll_cons hA
  obtain ⟨v2, vs, d2, es, p2, q2, rfl, rfl, rfl, h2, hA⟩ := trodAll_cons hA
  obtain ⟨v3, vs, d3, es, p3, q3, rfl, rfl, rfl, h3, hA⟩ := trodAll_cons hA
  obtain ⟨v4, vs, d4, es, p4, q4, rfl, rfl, rfl, h4, hA⟩ := trodAll_cons hA
  obtain ⟨rfl, rfl, rfl⟩ := trodAll_nil hA
  obtain rfl : args = #[v0, v1, v2, v3, v4] := by cases args; simp_all
  obtain ⟨rfl, rfl⟩ := trodVars_none hV
  obtain ⟨f0, h0⟩ := h0
  obtain ⟨f1, h1⟩ := h1
  obtain ⟨ip, rfl⟩ := okWide_int Tryd.underlying24 (hval 0 24 v0 rfl rfl)
  obtain ⟨m, rfl⟩ := okWide_int Tryd.underlying29 (hval 1 29 v1 rfl rfl)
  obtain ⟨pa, pb, rfl, wa, wb⟩ := open_pfx (hval 2 35 v2 rfl rfl) h2
  obtain ⟨a, b, c, d, e, f, g, h, i, j, rfl, w3⟩ := open_esi (hval 3 39 v3 rfl rfl) h3
  obtain ⟨_, x0, _, w0⟩ := DataW.trod_int Tryd.underlying24 h0
  obtain ⟨_, x1, _, w1⟩ := DataW.trod_int Tryd.underlying29 h1
  simp [Value.cells] at x0 x1
  subst x0 x1
  have i0 : 0 ≤ ip ∧ ip < 4294967296 := by
    simp [Lit.wf, IntKind.min, IntKind.max, IntKind.signed, IntKind.bits] at w0
    omega
  have i1 : 0 ≤ m ∧ m < 18446744073709551616 := by
    simp [Lit.wf, IntKind.min, IntKind.max, IntKind.signed, IntKind.bits] at w1
    omega
  have i2 : -9223372036854775808 ≤ pb ∧ pb ≤ 9223372036854775807 := by
    simp [Lit.wf, IntKind.min, IntKind.max, IntKind.signed, IntKind.bits] at wb
    omega
  have i3 : ∀ v ∈ [a, b, c, d, e, f, g, h, i, j], 0 ≤ v ∧ v ≤ 255 := fun v hv => by
    have := w3 v hv
    simp [Lit.wf, IntKind.min, IntKind.max, IntKind.signed, IntKind.bits] at this
    omega
  obtain ⟨s, rfl⟩ := okWide_string Tryd.underlying9 (hval 4 9 v4 rfl rfl)
  have hcall : Calls Tryd.prog 4 #[.int .u32 ip, .int .u64 m, pfx pa pb, esi a b c d e f g h i j, .string s] W fun en W' => en = .returned (.bool true) ∧ Below W.heap.size W W' := by
    by_cases hlen : 200 < s.size
    · exact texts_long ip m pa pb a b c d e f g h i j s hlen W
    · exact texts_short ip m pa pb a b c d e f g h i j i0.1 i0.2 i3 s hlen W hG i1.1 i1.2 i2.1 i2.2
  refine hcall.mono fun e W' ⟨he, hb⟩ => ?_
  subst he
  exact ⟨_, rfl, post_fine laid (by decide +kernel) hW' hA1 rfl (fun _ => rfl) (fun _ _ _ => (trodAll_cons_mk (shut_bool Tryd.underlying4 _) trodAll_mk0)) rfl hb (ok_one (by kernel_rfl) rfl (okWide_bool_mk Tryd.underlying4 _))⟩

theorem row_holds : Rows.AddrTextsSaid :=
  OpenClaim.holds_of_cond 4 Tryd.f4 rfl rfl rfl rfl rfl rfl rfl ⟨rfl, rfl, rfl, rfl, rfl⟩ rfl rfl rfl rfl rfl (by kernel_rfl) Tryd.func4 (by kernel_rfl)
    (of_decide_eq_true (by kernel_rfl)) (by unfold Func.isWrapper; first | (rw [if_pos (by decide +kernel)]; kernel_rfl) | (rw [if_neg (by decide +kernel)]; exact ⟨rfl, rfl⟩))
    (fun os started H enc _ F0 => by rw [OpenClaim.pre_eq_preRow]; exact lifted os started H enc F0)

end Go.Proofs.YtlmgbnpimmjijaaDoor.addrTexts
