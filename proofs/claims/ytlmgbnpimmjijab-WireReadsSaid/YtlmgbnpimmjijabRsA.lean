/- WireReads: arguments that are too long. -/
import Derived.Test.YtlmgbnpimmjijabRfH
namespace Go.Proofs.Ytlmgbnpimmjijab
open Go.RowKit
set_option linter.unusedVariables false
set_option maxRecDepth 100000

theorem Os.new {w : World} {o h cap : Nat} {xs : List Int} (H : Rf w o h cap xs 0 xs.length 0 0) : Os w o h cap xs ⟨xs, 0, 0, 0, 0⟩ :=
  ⟨by show Rf w o h cap xs 0 (0 + xs.length) 0 0; rw [Nat.zero_add]; exact H, fun n _ => rfl, Nat.le_refl _, fun _ => rfl⟩

theorem Os.only {w w' : World} {o h cap g' : Nat} {xs : List Int} {s : RS} {t : TypeId} {cs : Array Value} (H : Os w o h cap xs s) (ho : Has w g' t cs) (hg : Only w g' w') (h1 : o ≠ g') (ht : t ≠ 5) : Os w' o h cap xs s :=
  ⟨H.rf.other ho hg h1 ht, H.part, H.lo, H.ea⟩

theorem reads_long (v v3 : Value) (A A3 : Option Addr) (n n3 c c3 : Nat) (hv : v = .slice A n c) (hv3 : v3 = .slice A3 n3 c3) (h : 400 < n ∨ 60 < n3) (hb : n ≤ 9223372036854775807) (hb3 : n3 ≤ 9223372036854775807) (w : World) :
    Calls Try.prog 5 #[v, v3] w fun e w' => e = .returned (.bool true) ∧ Below w.heap.size w w' := by
  subst hv hv3
  by_cases h1 : 400 < n
  · clear h
    go_enter Try.func5, Try.ntmps5
    go_wp2_with fail
    refine (lives_any _).mono ?_
    rintro en w1 ⟨rfl, hb1⟩
    go_wp2_with fail
    go_ret
    exact ⟨rfl, hb1⟩
  · have h2 : 60 < n3 := by omega
    clear h
    go_enter Try.func5, Try.ntmps5
    go_wp2_with fail
    refine (lives_any _).mono ?_
    rintro en w1 ⟨rfl, hb1⟩
    go_wp2_with fail
    go_ret
    exact ⟨rfl, hb1⟩

end Go.Proofs.Ytlmgbnpimmjijab
