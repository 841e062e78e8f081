/- Packets that carry frames: Check; written by gen_vxb.py. -/
import Derived.Test.YtgdfpmnbofnjfaaPkC
import Derived.Test.YtgdfpmnbofnjfaaVxA
namespace Go.Proofs.Ytgdfpmnbofnjfaa
open Go.RowKit Go.Shelf
set_option linter.unusedVariables false
set_option linter.unusedSimpArgs false
set_option maxRecDepth 100000

theorem vwithin_any (n m : Int) (w : World) : Calls Try.prog 30 #[.int .i64 n, .int .i64 m] w fun e w' => e = .returned (.bool (wi n m)) ∧ w = w' := by
  go_enter Try.func30, Try.ntmps30
  by_cases h6 : 0 ≤ n
  · have e6 : decide (0 ≤ n) = true := by simpa using h6
    go_wp2
    go_ret
    exact ⟨by simp [wi, e6], rfl⟩
  have e6 : decide (0 ≤ n) = false := by simpa using h6
  go_wp2
  go_ret
  exact ⟨by simp [wi, e6], rfl⟩

/-- What Check answers. -/
def vchk (x : VP) : Int := if wi x.t 255 = false ∨ wi x.n 65535 = false ∨ 16777215 < x.v ∨ 16777215 < x.m then 2 else fchk x.f

set_option maxHeartbeats 2000000 in
theorem vcheck_any (x : VP) (hx : x.ty) (w : World) : Calls Try.prog 14 #[.agg x.cs] w fun e w' => e = .returned (.int .i64 (vchk x)) ∧ Below w.heap.size w w' := by
  have HCk : Hid (∀ W : World, Calls Try.prog 31 #[.agg x.f.cs] W fun e w' => e = .returned (.int .i64 (fchk x.f)) ∧ Below W.heap.size W w') := Lib.hid (fun W => check_any x.f hx.f W)
  obtain ⟨r, hr⟩ : ∃ r, vchk x = r := ⟨_, rfl⟩
  rw [hr]
  have HR := Lib.hid hr
  clear hr hx
  obtain ⟨W0, hW0⟩ : ∃ W0, w.alloc (.cells x.cs 34) = W0 := ⟨_, rfl⟩
  have HBox : Hid (Has W0 w.heap.size 34 x.cs) := Lib.hid (hW0 ▸ Has.new _ _ _)
  have HL : Hid (Below w.heap.size w W0) := Lib.hid (hW0 ▸ (Below.refl _ w).alloc (Nat.le_refl _) _)
  have HSz : Hid (W0.heap.size = w.heap.size + 1) := Lib.hid (by rw [← hW0]; simp)
  obtain ⟨b1, hb1⟩ : ∃ b, wi x.t 255 = b := ⟨_, rfl⟩
  obtain ⟨b2, hb2⟩ : ∃ b, wi x.n 65535 = b := ⟨_, rfl⟩
  obtain ⟨b3, hb3⟩ : ∃ b, decide (16777215 < x.v) = b := ⟨_, rfl⟩
  obtain ⟨b4, hb4⟩ : ∃ b, decide (16777215 < x.m) = b := ⟨_, rfl⟩
  have HG : Hid (r = if b1 = false ∨ b2 = false ∨ b3 = true ∨ b4 = true then 2 else fchk x.f) := Lib.hid (by
    rw [← HR.out]
    unfold vchk
    rw [hb1, hb2]
    have e3 : 16777215 < x.v ↔ b3 = true := by rw [← hb3]; simp
    have e4 : 16777215 < x.m ↔ b4 = true := by rw [← hb4]; simp
    simp only [e3, e4])
  clear HR
  go_enter Try.func14, Try.ntmps14
  go_upto_region 1 with fail
  try rw [hW0]
  clear hW0
  have c2 := HBox.out.v2
  have c3 := HBox.out.v3
  have c4 := HBox.out.v4
  have c5 := HBox.out.v5
  cases b1
  case false =>
    clear HCk
    go_wp2_with (first | (go_at_call 30; refine (vwithin_any _ _ _).mono ?_; rintro e w1 ⟨rfl, rfl⟩; try simp only [hb1, hb2]))
    go_ret
    exact ⟨by rw [HG.out]; rfl, HL.out⟩
  cases b2
  case false =>
    clear HCk
    go_wp2_with (first | (go_at_call 30; refine (vwithin_any _ _ _).mono ?_; rintro e w1 ⟨rfl, rfl⟩; try simp only [hb1, hb2]))
    go_ret
    exact ⟨by rw [HG.out]; rfl, HL.out⟩
  cases b3
  case true =>
    clear HCk
    go_wp2_with (first | (go_at_call 30; refine (vwithin_any _ _ _).mono ?_; rintro e w1 ⟨rfl, rfl⟩; try simp only [hb1, hb2]))
    go_ret
    exact ⟨by rw [HG.out]; rfl, HL.out⟩
  cases b4
  case true =>
    clear HCk
    go_wp2_with (first | (go_at_call 30; refine (vwithin_any _ _ _).mono ?_; rintro e w1 ⟨rfl, rfl⟩; try simp only [hb1, hb2]))
    go_ret
    exact ⟨by rw [HG.out]; rfl, HL.out⟩
  go_wp2_with (first | (go_at_call 30; refine (vwithin_any _ _ _).mono ?_; rintro e w1 ⟨rfl, rfl⟩; try simp only [hb1, hb2]) | (refine wpList_load_mid rfl 32 (.tmp 23) rfl w.heap.size 6 rfl x.f.cs.toList _ HBox.out.inner Try.underlying32 rfl (fr_fit_t x.f) ?_) | (go_at_call 31; refine (HCk.out _).mono ?_; rintro e w2 ⟨rfl, hb9⟩; have HB2 := Lib.hid hb9; clear hb9))
  go_ret
  exact ⟨by rw [HG.out]; rfl, HL.out.trans (HB2.out.mono HL.out.size)⟩

end Go.Proofs.Ytgdfpmnbofnjfaa
