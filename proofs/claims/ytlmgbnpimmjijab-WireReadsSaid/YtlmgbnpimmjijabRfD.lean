/- WireReads: the document's own reader: NewReader. -/
import Derived.Test.YtlmgbnpimmjijabRfC
import Derived.Test.YtlmgbnpimmjijabLwB
namespace Go.Proofs.Ytlmgbnpimmjijab
open Go.RowKit
set_option linter.unusedVariables false
set_option maxRecDepth 100000

theorem fnew (ad : Addr) (n c : Nat) (xs : List Int) (hl : xs.length = n) (hm : n ≤ 1000000) (w : World) (hc : Cel w ad xs) (hx : ∀ v ∈ xs, 0 ≤ v ∧ v ≤ 255) :
    Calls Try.prog 39 #[.slice (some ad) n c] w fun e w' => ∃ o' h' c', e = .returned (.pointer (some ⟨o', 0, none⟩)) ∧ w.heap.size ≤ o' ∧ w.heap.size ≤ h' ∧ Rf w' o' h' c' xs 0 xs.length 0 0 ∧ Below w.heap.size w w' := by
  obtain ⟨i0, hi, hz0, hz1, hz2⟩ := info_parts info_u8
  have hc1 := hc.below ((Below.refl _ w).alloc (Nat.le_refl _) (.cells #[] 5))
  have HL := Lib.hid hl
  have HX := Lib.hid hx
  clear hc hl hx
  go_enter Try.func39, Try.ntmps39
  go_wp2_with (at_builtin; refine wpList_append_own _ rfl _ _ 34 rfl w.heap.size 5 i0 (.int .u8 0) 1 1 Try.underlying34 hi hz0 hz1 hz2 rfl (by decide) _ 0 [] rfl (own_new w) ad n c (u8s xs) rfl (by simp [HL.out]) hc1 (u8s_one xs) (by unfold maxLen; omega) (by omega) (by simp) ?_)
  intro v' w1 hown hgrow hnil
  have hbel : Below w.heap.size w w1 := below_only ((Below.refl _ w).alloc (Nat.le_refl _) (.cells #[] 5)) hgrow (Nat.le_refl _) (by simp)
  obtain ⟨g', c', rfl, hb, hr⟩ := own_row hown hnil (by rw [HL.out])
  clear hown hgrow hnil
  go_wp2
  go_ret
  have hr2 : Row (w1.alloc (.cells (rfc g' n c' 0 n 0 0) 71)) g' c' xs := hr.below ((Below.refl _ w1).alloc (Nat.le_refl _) _)
  refine ⟨w1.heap.size, g', c', rfl, hbel.size, hb, ⟨?_, hr2, Nat.zero_le _, Nat.le_refl _, by rw [HL.out]; exact hm, HX.out⟩, hbel.trans ((Below.refl _ w1).alloc hbel.size _)⟩
  have hnew := Has.new w1 71 (rfc g' n c' 0 n 0 0)
  rw [HL.out]
  exact hnew

theorem fnew_nil (w : World) :
    Calls Try.prog 39 #[.slice none 0 0] w fun e w' => ∃ o' h' c', e = .returned (.pointer (some ⟨o', 0, none⟩)) ∧ w.heap.size ≤ o' ∧ w.heap.size ≤ h' ∧ Rf w' o' h' c' [] 0 0 0 0 ∧ Below w.heap.size w w' := by
  go_enter Try.func39, Try.ntmps39
  go_wp2
  go_ret
  have hr0 : Row (w.alloc (.cells #[] 5)) w.heap.size 0 [] := ⟨#[], Has.new w 5 #[], rfl, rfl, Nat.le_refl _, by simp⟩
  have hb0 : Below w.heap.size w (w.alloc (.cells #[] 5)) := (Below.refl _ w).alloc (Nat.le_refl _) _
  have hr2 : Row ((w.alloc (.cells #[] 5)).alloc (.cells (rfc w.heap.size 0 0 0 0 0 0) 71)) w.heap.size 0 [] := hr0.below ((Below.refl _ _).alloc (Nat.le_refl _) _)
  refine ⟨w.heap.size + 1, w.heap.size, 0, rfl, by omega, by omega, ⟨?_, hr2, Nat.le_refl _, Nat.le_refl _, by simp, by simp⟩, hb0.trans ((Below.refl _ _).alloc (by simp) _)⟩
  have hnew := Has.new (w.alloc (.cells #[] 5)) 71 (rfc w.heap.size 0 0 0 0 0 0)
  simpa using hnew

theorem fnewA (v : Value) (xs : List Int) (w : World) (h : Arr w v xs) (hm : xs.length ≤ 1000000) (hx : ∀ v ∈ xs, 0 ≤ v ∧ v ≤ 255) :
    Calls Try.prog 39 #[v] w fun e w' => ∃ o' h' c', e = .returned (.pointer (some ⟨o', 0, none⟩)) ∧ w.heap.size ≤ o' ∧ w.heap.size ≤ h' ∧ Rf w' o' h' c' xs 0 xs.length 0 0 ∧ Below w.heap.size w w' := by
  rcases h with ⟨rfl, rfl⟩ | ⟨ad, c, rfl, h2⟩
  · exact fnew_nil w
  · exact fnew ad _ c xs rfl hm w h2 hx

end Go.Proofs.Ytlmgbnpimmjijab
