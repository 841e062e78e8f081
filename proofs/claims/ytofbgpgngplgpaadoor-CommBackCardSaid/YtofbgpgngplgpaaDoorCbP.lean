/- CommBack: the law returns true. No condition; the listed table as the text lays it. -/
import Derived.Test.YtofbgpgngplgpaaDoorCmO
import Derived.Test.YtofbgpgngplgpaaDoorCmP
import Derived.Test.YtofbgpgngplgpaaDoorCmM
namespace Go.Proofs.YtofbgpgngplgpaaDoor.commBack
open Go.ChangeShapes Go.WideShapes Go.ChangeAt Go.RowKit Go.Joins
set_option linter.unusedVariables false

def args0 : Array Value := #[.slice none 0 0, .int .i64 0, .int .u32 0, .int .i64 0, .int .i64 0, .int .u64 0, .bool false]

theorem laid_met (os : Os) : laidMet Tryd.prog Rows.commBackRow.laid ((laidWorld os).forCall (fun _ _ => 0) ⟨#[], args0, []⟩).memory :=
  laidMet_of_run' 8 (by kernel_rfl) (by kernel_rfl)

abbrev spec : OpenSpec := OpenSpec.ofChange Rows.commBackSpec
noncomputable abbrev fn := Tryd.f6

theorem witness_row (os : Os) {H : Type} (enc : TypeId × Value → H) :
    spec.preRow enc Tryd.prog fn Rows.commBackRow.domain false Rows.commBackRow.laid ((laidWorld os).forCall (fun _ _ => 0) ⟨#[], args0, []⟩).memory args0 := by
  have hw : (DataW.whole enc Tryd.prog ((laidWorld os).forCall (fun _ _ => 0) ⟨#[], args0, []⟩).memory fn.params.toList spec.vars false args0.toList 8).map (fun x => (x.1, x.2.1)) =
      some ([.nil, .lit (.int .i64 0), .lit (.int .u32 0), .lit (.int .i64 0), .lit (.int .i64 0), .lit (.int .u64 0), .lit (.bool false)], []) := by kernel_rfl
  obtain ⟨⟨x1, x2, x3⟩, hx, hx1⟩ := Option.map_eq_some_iff.1 hw
  simp only [Prod.mk.injEq] at hx1
  obtain ⟨rfl, rfl⟩ := hx1
  exact OpenSpec.preRow_of_cond 8 hx (by kernel_rfl) (fun k hk => by cases hk) (by kernel_rfl) (laid_met os)

set_option maxRecDepth 100000 in
set_option maxHeartbeats 2000000 in
theorem lifted (os : Os) (started : os.Started) (H : Type) (enc : TypeId × Value → H) (F : Stop.Interp) :
    ReturnsInHanded {} Tryd.checked os 6 .any (spec.preRow enc Tryd.prog fn Rows.commBackRow.domain false Rows.commBackRow.laid) ((spec.at F).post enc Tryd.prog fn false true false false) := by
  refine returnsInHanded_of_row (C := Tryd.checked) (s := spec) own started (by kernel_rfl) Tryd.func6
    (witness_row_at (enc := enc) (C := Tryd.checked) false (laidWorld os) args0 rfl (by kernel_rfl) (by kernel_rfl) (by kernel_rfl) (witness_row os enc)) ?_
  intro W base args ds gs before hval0 hW hcond0 _ hsz0 hL hsh _
  clear hcond0 hsz0
  have hG : GK W := kinds_laid (Lib.laidMet.reads hL (.head _))
  have hval : ∀ (j : Nat) t v, fn.params[j]? = some t → args[j]? = some v → Value.okWide Tryd.prog W .any base t v := hval0
  clear hval0
  have hW' := hW
  obtain ⟨p, q, hA0, hV, rfl, hfz, hnd⟩ := hW
  have hA1 : DataW.TrodAll enc Tryd.prog W 0 (fun _ => true) true fn.params.toList args.toList ds p := hA0
  clear hA0
  have hA := hA1
  rw [Tryd.params6] at hA hval
  obtain ⟨v0, vs, d0, es, p0, q0, e0, rfl, rfl, h0, hA⟩ := trodAll_cons hA
  obtain ⟨v1, vs, d1, es, p1, q1, rfl, rfl, rfl, h1, hA⟩ := trodAll_cons hA
  obtain ⟨v2, vs, d2, es, p2, q2, rfl, rfl, rfl, h2, hA⟩ := trodAll_cons hA
  obtain ⟨v3, vs, d3, es, p3, q3, rfl, rfl, rfl, h3, hA⟩ := trodAll_cons hA
  obtain ⟨v4, vs, d4, es, p4, q4, rfl, rfl, rfl, h4, hA⟩ := trodAll_cons hA
  obtain ⟨v5, vs, d5, es, p5, q5, rfl, rfl, rfl, h5, hA⟩ := trodAll_cons hA
  obtain ⟨v6, vs, d6, es, p6, q6, rfl, rfl, rfl, h6, hA⟩ := trodAll_cons hA
  obtain ⟨rfl, rfl, rfl⟩ := trodAll_nil hA
  obtain rfl : args = #[v0, v1, v2, v3, v4, v5, v6] := by cases args; simp_all
  obtain ⟨rfl, rfl⟩ := trodVars_none hV
  obtain ⟨f1, h1⟩ := h1
  obtain ⟨f2, h2⟩ := h2
  obtain ⟨f3, h3⟩ := h3
  obtain ⟨f4, h4⟩ := h4
  obtain ⟨f5, h5⟩ := h5
  obtain ⟨f6, h6⟩ := h6
  obtain ⟨L, A, c, rfl, hLc, hok, hmx⟩ := open_comms (hval 0 35 v0 rfl rfl) h0
  obtain ⟨at_, rfl⟩ := okWide_int Tryd.underlying3 (hval 1 3 v1 rfl rfl)
  obtain ⟨n, rfl⟩ := okWide_int Tryd.underlying28 (hval 2 28 v2 rfl rfl)
  obtain ⟨a, rfl⟩ := okWide_int Tryd.underlying3 (hval 3 3 v3 rfl rfl)
  obtain ⟨b, rfl⟩ := okWide_int Tryd.underlying3 (hval 4 3 v4 rfl rfl)
  obtain ⟨m, rfl⟩ := okWide_int Tryd.underlying32 (hval 5 32 v5 rfl rfl)
  obtain ⟨is, rfl⟩ := okWide_bool Tryd.underlying4 (hval 6 4 v6 rfl rfl)
  obtain ⟨_, x2, _, w2⟩ := DataW.trod_int Tryd.underlying28 h2
  obtain ⟨_, x5, _, w5⟩ := DataW.trod_int Tryd.underlying32 h5
  simp [Value.cells] at x2 x5
  subst x2 x5
  simp [Lit.wf, IntKind.min, IntKind.max, IntKind.signed, IntKind.bits] at w2 w5
  unfold maxLen at hmx
  have hcall := (show Calls Tryd.prog 6 #[.slice A L.length c, .int .i64 at_, .int .u32 n, .int .i64 a, .int .i64 b, .int .u64 m, .bool is] W (fun e w' => e = .returned (.bool true) ∧ Below W.heap.size W w') by
    by_cases h60 : L.length ≤ 60
    · exact back3_walk L h60 hok A c at_ n a b m is (by omega) (by omega) (by omega) (by omega) W hLc hG
    · exact back3_long A L.length c at_ n a b m is (by omega) (by omega) W hG)
  refine hcall.mono fun e W' ⟨he, hb⟩ => ?_
  subst he
  exact ⟨_, rfl, post_fine laid (by decide +kernel) hW' hA1 rfl (fun _ => rfl) (fun _ _ _ => (trodAll_cons_mk (shut_bool Tryd.underlying4 _) trodAll_mk0)) rfl hb (ok_one (by kernel_rfl) rfl (okWide_bool_mk Tryd.underlying4 _))⟩

theorem row_holds : Rows.CommBackSaid :=
  OpenClaim.holds_of_cond 6 Tryd.f6 rfl rfl rfl rfl rfl rfl rfl ⟨rfl, rfl, rfl, rfl, rfl⟩ rfl rfl rfl rfl rfl (by kernel_rfl) Tryd.func6 (by kernel_rfl)
    (of_decide_eq_true (by kernel_rfl)) (by unfold Func.isWrapper; first | (rw [if_pos (by decide +kernel)]; kernel_rfl) | (rw [if_neg (by decide +kernel)]; exact ⟨rfl, rfl⟩))
    (fun os started H enc _ F0 => by rw [OpenClaim.pre_eq_preRow]; exact lifted os started H enc F0)

end Go.Proofs.YtofbgpgngplgpaaDoor.commBack
