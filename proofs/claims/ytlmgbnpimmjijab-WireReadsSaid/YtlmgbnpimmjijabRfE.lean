/- WireReads: the document's own reader: Bytes. -/
import Derived.Test.YtlmgbnpimmjijabRfD
namespace Go.Proofs.Ytlmgbnpimmjijab
open Go.RowKit
set_option linter.unusedVariables false
set_option maxRecDepth 100000

theorem fbytes_a (o h cap : Nat) (xs : List Int) (p en : Nat) (ef ea : Int) (w : World) (H : Rf w o h cap xs p en ef ea) (m : Int) (hf : (ef == 0) = false) :
    Calls Try.prog 42 #[.pointer (some ⟨o, 0, none⟩), .int .i64 m] w fun e w' => e = .returned (.slice none 0 0) ∧ ∃ k, w' = w.drewN k := by
  go_enter Try.func42, Try.ntmps42
  go_wp2_with fail
  refine (fhas_a o h cap xs p en ef ea _ H m hf).mono ?_
  rintro e w' ⟨rfl, k, rfl⟩
  go_wp2_with fail
  go_ret
  exact ⟨rfl, _, rfl⟩

theorem fbytes_b (o h cap : Nat) (xs : List Int) (p en : Nat) (ea : Int) (w : World) (H : Rf w o h cap xs p en 0 ea) (m : Int) (hm : m < 0) :
    Calls Try.prog 42 #[.pointer (some ⟨o, 0, none⟩), .int .i64 m] w fun e w' => e = .returned (.slice none 0 0) ∧ Rf w' o h cap xs p en 4 p ∧ Only w o w' := by
  go_enter Try.func42, Try.ntmps42
  go_wp2_with fail
  refine (fhas_b o h cap xs p en ea _ H m hm).mono ?_
  rintro e w' ⟨rfl, h1, h2⟩
  have HH := Lib.hid (And.intro h1 h2)
  clear h1 h2
  go_wp2_with fail
  go_ret
  exact ⟨rfl, HH.out⟩

theorem fbytes_c (o h cap : Nat) (xs : List Int) (p en : Nat) (ea : Int) (w : World) (H : Rf w o h cap xs p en 0 ea) (m : Int) (hm0 : 0 ≤ m) (hm : ((en - p : Nat) : Int) < m) :
    Calls Try.prog 42 #[.pointer (some ⟨o, 0, none⟩), .int .i64 m] w fun e w' => e = .returned (.slice none 0 0) ∧ Rf w' o h cap xs p en 4 p ∧ Only w o w' := by
  go_enter Try.func42, Try.ntmps42
  go_wp2_with fail
  refine (fhas_c o h cap xs p en ea _ H m hm0 hm).mono ?_
  rintro e w' ⟨rfl, h1, h2⟩
  have HH := Lib.hid (And.intro h1 h2)
  clear h1 h2
  go_wp2_with fail
  go_ret
  exact ⟨rfl, HH.out⟩

end Go.Proofs.Ytlmgbnpimmjijab
