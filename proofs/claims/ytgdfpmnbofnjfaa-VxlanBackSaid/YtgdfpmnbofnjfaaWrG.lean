/- Writers: lengths patched. -/
import Derived.Test.YtgdfpmnbofnjfaaWrF
namespace Go.Proofs.Ytgdfpmnbofnjfaa
open Go.RowKit Go.Maps
set_option maxRecDepth 100000
set_option linter.unusedVariables false

/-- The length of what follows a mark, written into it. -/
def WS.patch (s : WS) (m : Int) : Int × WS :=
  if m ∈ s.marks then (0, { s with out := s.out.take m.toNat ++ be ((s.out.length : Int) - (m + 2)) 2 ++ s.out.drop (m.toNat + 2), marks := s.marks.filter (fun k => decide (k ≠ m)) }) else (16, s)

theorem MapIs.drop {w' : World} {b n : Nat} {marks : List Int} (m : Int) (D : DataW Unit) (hh : ∀ k : Int, (Lit.int .i64 k).wf = true → Maps.has D (.int .i64 k) = decide (k ∈ marks))
    (h2 : w'.ownsMap Try.prog 3 unitElem b n (D.del (.int .i64 m))) : MapIs w' b n (marks.filter (fun k => decide (k ≠ m))) := by
  refine ⟨_, h2, fun k hk => ?_⟩
  by_cases hkm : k = m
  · subst hkm
    rw [Maps.has_del_same]
    simp
  · rw [Maps.has_del_other (by simpa using hkm), hh k hk]
    simp [hkm]

theorem zero_unit (w : World) : (zeroValue 103).run Try.prog w = .ok (.agg #[]) w := by kernel_rfl

theorem wbytes_nil (w : World) :
    Calls Try.prog 118 #[.pointer none, .slice none 0 0] w fun e w' => e = .returned (.int .i64 1) ∧ w = w' := by
  go_enter Try.func118, Try.ntmps118
  go_wp2_with (first
    | (go_at_call 87; refine (wextend_nil _ 0).mono ?_; rintro e w' ⟨rfl, rfl⟩)
    | (with_reducible refine wpList_copy_nothing rfl (.tmp 14) (.tmp 15) 40 40 rfl 5 Try.underlying40 u8_size none none 0 0 0 0 rfl rfl (by simp) ?_))
  go_ret
  exact ⟨rfl, rfl⟩

theorem wnumber_nil (w : World) (v : Int) (m : Int) :
    Calls Try.prog 72 #[.pointer none, .int .u64 v, .int .i64 m] w fun e w' => e = .returned (.int .i64 1) ∧ w = w' := by
  go_enter Try.func72, Try.ntmps72
  go_wp2_with (first
    | (go_at_call 73; refine (wvalid_no _).mono ?_; rintro e w' ⟨rfl, rfl⟩)
    | (go_at_call 87; refine (wextend_nil _ m).mono ?_; rintro e w' ⟨rfl, rfl⟩)
    | (go_at_call 88; refine (wput_nil v _ 0 0 none rfl).mono ?_; rintro e w' ⟨rfl, rfl⟩))
  go_ret
  exact ⟨rfl, rfl⟩

theorem wU1_nil (w : World) (v : Int) :
    Calls Try.prog 65 #[.pointer none, .int .u64 v] w fun e w' => e = .returned (.int .i64 1) ∧ w = w' := by
  go_enter Try.func65, Try.ntmps65
  go_wp2_with (go_at_call 72; refine (wnumber_nil _ v 1).mono ?_; rintro e w' ⟨rfl, rfl⟩)
  go_ret
  exact ⟨rfl, rfl⟩

theorem wU8_nil (w : World) (v : Int) :
    Calls Try.prog 54 #[.pointer none, .int .u64 v] w fun e w' => e = .returned (.int .i64 1) ∧ w = w' := by
  go_enter Try.func54, Try.ntmps54
  go_wp2_with (go_at_call 72; refine (wnumber_nil _ v 8).mono ?_; rintro e w' ⟨rfl, rfl⟩)
  go_ret
  exact ⟨rfl, rfl⟩

end Go.Proofs.Ytgdfpmnbofnjfaa
