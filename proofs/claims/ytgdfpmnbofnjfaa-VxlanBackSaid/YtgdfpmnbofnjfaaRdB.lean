/- Readers: positions, faults, and the bytes that are taken. -/
import Derived.Test.YtgdfpmnbofnjfaaRdA
namespace Go.Proofs.Ytgdfpmnbofnjfaa
open Go.RowKit

section
variable {w w' : World} {g h cap : Nat} {bs : List Int} {st p : Nat} {ef ea : Int}
theorem Rd.moved (H : Rd w g h cap bs st p ef ea) {p' : Nat} {ef' ea' : Int} (ho : Only w g w') (hb : Has w' g 121 (rdc st p' (st + bs.length : Nat) h bs.length cap ef' ea')) (h1 : st ≤ p') (h2 : p' ≤ st + bs.length) : Rd w' g h cap bs st p' ef' ea' :=
  ⟨hb, H.row.grown ho (by rintro ⟨⟩; exact H.ne_ rfl), h1, h2, H.small, H.byte⟩
end

theorem radvance (g h cap : Nat) (bs : List Int) (st p : Nat) (ef ea : Int) (w : World) (H : Rd w g h cap bs st p ef ea) (n : Nat) (hn : p + n ≤ st + bs.length) :
    Calls Try.prog 86 #[.pointer (some ⟨g, 0, none⟩), .int .i64 n] w fun e w' => e = .returned (.tuple #[.int .i64 ((p - st : Nat) : Int), .int .i64 ((p - st + n : Nat) : Int)]) ∧ Rd w' g h cap bs st (p + n) ef ea ∧ Only w g w' := by
  have c0 := H.c0
  have c1 := H.c1
  have f1 := H.blk.free 1
  have h1 := H.hi
  have h2 := H.small
  have h3 := H.lo
  have HH : Hid (Rd w g h cap bs st p ef ea) := Lib.hid H
  clear H
  go_enter Try.func86, Try.ntmps86
  go_wp2
  go_quiet (fail)
  go_wp2
  go_ret2
  have ho : Only w g ((w.drewN nq).setCell ⟨g, 1, none⟩ (.int .i64 ((p : Int) + n))) := only_set (only_drewN (only_refl w g) _) (.inl rfl) _
  exact ⟨by simp; omega, HH.out.moved ho (by simpa using (HH.out.drewN nq).blk.set_ 1 (.int .i64 ((p : Int) + n))) (by omega) hn, ho⟩

theorem rfault (g h cap : Nat) (bs : List Int) (st p : Nat) (ef ea : Int) (w : World) (H : Rd w g h cap bs st p ef ea) :
    Calls Try.prog 83 #[.pointer (some ⟨g, 0, none⟩)] w fun e w' => e = .returned (.agg #[.int .i64 ef, .int .i64 ea]) ∧ w.alloc (.cells #[.int .i64 ef, .int .i64 ea] 37) = w' := by
  have c4 := H.c4
  have c5 := H.c5
  have hl := H.blk.lt
  have H' := H.below ((Below.refl _ w).alloc (Nat.le_refl _) (.cells #[.int .i64 0, .int .i64 0] 37))
  go_enter Try.func83, Try.ntmps83
  go_wp2_with (go_at_call 92; refine (rvalid_yes _ _ _ _ _ _ _ _ _ H').mono ?_; rintro e w' ⟨rfl, rfl⟩)
  exact bodyPost_ret (v := .agg #[.int .i64 ef, .int .i64 ea]) (by simp [results, Try.results83, go_sem]) rfl ⟨rfl, by simp⟩

theorem rfault_nil (w : World) :
    Calls Try.prog 83 #[.pointer none] w fun e w' => e = .returned (.agg #[.int .i64 1, .int .i64 0]) ∧ w.alloc (.cells #[.int .i64 1, .int .i64 0] 37) = w' := by
  go_enter Try.func83, Try.ntmps83
  go_wp2_with (go_at_call 92; refine (rvalid_no _).mono ?_; rintro e w' ⟨rfl, rfl⟩)
  exact bodyPost_ret (v := .agg #[.int .i64 1, .int .i64 0]) (by simp [results, Try.results83, go_sem]) rfl ⟨rfl, by simp⟩

/-- Fail that changes nothing: no fault, or one before. -/
theorem rfail_no (g h cap : Nat) (bs : List Int) (st p : Nat) (ef ea : Int) (w : World) (H : Rd w g h cap bs st p ef ea) (x : Int) (hx : (x == 0) = true ∨ (ef == 0) = false) :
    Calls Try.prog 85 #[.pointer (some ⟨g, 0, none⟩), .int .i64 x] w fun e w' => e = .returned (.tuple #[]) ∧ w = w' := by
  have c4 := H.c4
  have HH : Hid (Rd w g h cap bs st p ef ea) := Lib.hid H
  clear H
  by_cases h0 : x = 0
  · subst h0
    clear hx
    go_enter Try.func85, Try.ntmps85
    go_wp2_with (go_at_call 92; refine (rvalid_yes _ _ _ _ _ _ _ _ _ HH.out).mono ?_; rintro e w' ⟨rfl, rfl⟩)
    go_end0
    exact ⟨rfl, rfl⟩
  · have h1 : (x != 0) = true := by simpa using h0
    have h2 : (ef == 0) = false := by
      rcases hx with hx | hx
      · exact absurd (by simpa using hx) h0
      · exact hx
    clear hx h0
    go_enter Try.func85, Try.ntmps85
    go_wp2_with (go_at_call 92; refine (rvalid_yes _ _ _ _ _ _ _ _ _ HH.out).mono ?_; rintro e w' ⟨rfl, rfl⟩)
    go_end0
    exact ⟨rfl, rfl⟩

theorem rfail_yes (g h cap : Nat) (bs : List Int) (st p : Nat) (ea : Int) (w : World) (H : Rd w g h cap bs st p 0 ea) (x : Int) (hx : (x != 0) = true) :
    Calls Try.prog 85 #[.pointer (some ⟨g, 0, none⟩), .int .i64 x] w fun e w' => e = .returned (.tuple #[]) ∧ Rd w' g h cap bs st p x p ∧ Only w g w' := by
  have c1 := H.c1
  have c4 := H.c4
  have c5 := H.c5
  have f4 := H.blk.free 4
  have f5 := H.blk.free 5
  have HH : Hid (Rd w g h cap bs st p 0 ea) := Lib.hid H
  clear H
  go_enter Try.func85, Try.ntmps85
  go_wp2_with (go_at_call 92; refine (rvalid_yes _ _ _ _ _ _ _ _ _ HH.out).mono ?_; rintro e w' ⟨rfl, rfl⟩)
  go_end0
  have ho : Only w g ((w.setCell ⟨g, 4, none⟩ (.int .i64 x)).setCell ⟨g, 5, none⟩ (.int .i64 (p : Int))) := only_set (only_set (only_refl w g) (.inl rfl) _) (.inl rfl) _
  exact ⟨rfl, HH.out.moved ho (by simpa using (HH.out.blk.set_ 4 (.int .i64 x)).set_ 5 (.int .i64 (p : Int))) HH.out.lo HH.out.hi, ho⟩

theorem rfail_nil (w : World) (x : Int) :
    Calls Try.prog 85 #[.pointer none, .int .i64 x] w fun e w' => e = .returned (.tuple #[]) ∧ w = w' := by
  go_enter Try.func85, Try.ntmps85
  go_wp2_with (go_at_call 92; refine (rvalid_no _).mono ?_; rintro e w' ⟨rfl, rfl⟩)
  go_end0
  exact ⟨rfl, rfl⟩

end Go.Proofs.Ytgdfpmnbofnjfaa
