/- PacketOnly: the walk; written by gen_pkw3.py. -/
import Derived.Test.YtgdfpmnbofnjfaaPkM
import Derived.Test.YtgdfpmnbofnjfaaPkH
namespace Go.Proofs.Ytgdfpmnbofnjfaa
open Go.RowKit Go.Shelf
set_option linter.unusedVariables false
set_option linter.unusedSimpArgs false
set_option maxRecDepth 100000

theorem Row.own {w : World} {h cap base : Nat} {bs : List Int} (H : Row w h cap bs) (hb : base ≤ h) : w.ownsRow base 5 1 (.slice (some ⟨h, 0, none⟩) bs.length cap) bs.length (u8s bs) := by
  obtain ⟨cur, h1, h2, h3, h4, h5⟩ := H
  refine ⟨by simp, .inr ⟨h, cap, cur, rfl, hb, h1, h4, h5, by omega, ?_⟩⟩
  rw [Nat.mul_one]
  exact h3
theorem run_append_none (w : World) (ad : Addr) (n c : Nat) (ty : TypeId) (h : n ≤ c) :
    (Builtin.append_ #[40, 40] ty #[.slice (some ad) n c, .slice none 0 0]).run Try.prog w = .ok (.slice (some ad) n c) w := by
  obtain ⟨i0, hi, hz0, hz1, hz2⟩ := info_parts info_u8
  simp [Builtin.append_, run_underlying Try.underlying40, sizeOf, typeInfo, hi, Builtin.lenOf, Builtin.firstCells, loadCells, loadCellsFrom, storeCells, h]

/-- Bytes appended to a row of the call's own. -/
theorem app_arr {w : World} {b n cap base : Nat} {xs ys : List Int} (H : Row w b cap xs) (hn : xs.length = n) (v2 : Value) (h2 : Arr w v2 ys) (hm1 : xs.length ≤ 1000000) (hm2 : ys.length ≤ 1000000) (hb : base ≤ b) (hbw : base ≤ w.heap.size)
    {ops : Array Oper} {rest : List Oper} {o : Oper} {a : Act} {Q : Exit → Act → World → Prop} (hg : o.guard = none) (s x : Operand)
    (hop : o.op = Op.call { callee := Callee.builtin Builtin.append, args := #[s, x], argTypes := #[40, 40] })
    (hs : a.eval s = .slice (some ⟨b, 0, none⟩) n cap) (hx : a.eval x = v2)
    (h : ∀ v' w', Arr w' v' (xs ++ ys) → Below base w w' → wpList Try.prog ops Q rest (a.put o.dst v') w') : wpList Try.prog ops Q (o :: rest) a w := by
  subst hn
  obtain ⟨i0, hi, hz0, hz1, hz2⟩ := info_parts info_u8
  rcases h2 with ⟨rfl, rfl⟩ | ⟨ad, c, rfl, hc⟩
  · have hcap : xs.length ≤ cap := by obtain ⟨_, _, _, _, h4, _⟩ := H; exact h4
    refine wpList_plain hg fun K hK => ?_
    refine Lib.wp_append_run w s x _ _ hop _ _ hs hx _ _ (run_append_none w _ _ _ _ hcap) ?_
    refine hK _ _ (h _ _ ?_ (Below.refl _ _))
    rw [List.append_nil]
    exact row_arr H rfl
  · refine wpList_append_own w hg s x 40 hop base 5 i0 (.int .u8 0) 1 1 Try.underlying40 hi hz0 hz1 hz2 rfl (by decide) _ _ _ hs (H.own hb) ad ys.length c (u8s ys) hx (by simp) (fun j u hu => hc j u hu) (u8s_one _) (by unfold maxLen; omega) (by omega) hbw ?_
    intro v' w' hown hgrow _
    have hl : (xs ++ ys).length = xs.length + ys.length := by simp
    have hbl : Below base w w' := (Below.refl base w).grown hgrow hbw (fun k e => by cases e; exact hb)
    refine h v' w' ?_ hbl
    by_cases hnil : v' = .slice none 0 0
    · subst hnil
      have h0 : xs.length + ys.length = 0 := by
        rcases hown.2 with ⟨_, h0⟩ | ⟨g, _, _, e, _⟩
        · exact h0
        · cases e
      have hx0 : xs = [] := List.eq_nil_of_length_eq_zero (by omega)
      have hy0 : ys = [] := List.eq_nil_of_length_eq_zero (by omega)
      exact .inl ⟨rfl, by rw [hx0, hy0]; rfl⟩
    · have hown2 : w'.ownsRow base 5 1 v' (xs.length + ys.length) (u8s (xs ++ ys)) := by
        rw [show u8s (xs ++ ys) = u8s xs ++ u8s ys from List.map_append]
        exact hown
      obtain ⟨g, cp, rfl, _, hr⟩ := own_row hown2 hnil hl
      exact row_arr hr hl

theorem only_ty {bs : List Int} (hby : ∀ v ∈ bs, 0 ≤ v ∧ v ≤ 255) (h : (fread bs).2.1 = 0) : (fread bs).1.ty := by
  rw [(fread_ok h).2.2.2.2.2]
  exact dcP_ty hby

end Go.Proofs.Ytgdfpmnbofnjfaa
