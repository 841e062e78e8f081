/- WireReads: the document's own reader: its memory, and the contracts of its small functions. -/
import Derived.Test.YtlmgbnpimmjijabRdF
namespace Go.Proofs.Ytlmgbnpimmjijab
open Go.RowKit
set_option linter.unusedVariables false

/-- The cells of the document's reader. -/
abbrev rfc (h n cap : Nat) (p en : Int) (ef ea : Int) : Array Value := #[.slice (some ⟨h, 0, none⟩) n cap, .int .i64 p, .int .i64 en, .int .i64 ef, .int .i64 ea]

/-- Block o is the document's reader of these bytes, at position p, up to en, with the fault (ef, ea). -/
structure Rf (w : World) (o h cap : Nat) (xs : List Int) (p en : Nat) (ef ea : Int) : Prop where
  blk : Has w o 71 (rfc h xs.length cap p en ef ea)
  row : Row w h cap xs
  lo : p ≤ en
  hi : en ≤ xs.length
  small : xs.length ≤ 1000000
  byte : ∀ v ∈ xs, 0 ≤ v ∧ v ≤ 255

section
variable {w w' : World} {o h cap : Nat} {xs : List Int} {p en : Nat} {ef ea : Int}
theorem Rf.ne_ (H : Rf w o h cap xs p en ef ea) : o ≠ h := by
  obtain ⟨cur, hh, _⟩ := H.row
  exact H.blk.unlike hh (by decide)
theorem Rf.grown {row : Option Nat} (H : Rf w o h cap xs p en ef ea) (hg : w.grownBy w' row) (h1 : some o ≠ row) (h2 : some h ≠ row) : Rf w' o h cap xs p en ef ea :=
  ⟨H.blk.grown hg h1, H.row.grown hg h2, H.lo, H.hi, H.small, H.byte⟩
theorem Rf.below (H : Rf w o h cap xs p en ef ea) (hb : Below w.heap.size w w') : Rf w' o h cap xs p en ef ea :=
  ⟨H.blk.below hb, H.row.below hb, H.lo, H.hi, H.small, H.byte⟩
theorem Rf.drewN (H : Rf w o h cap xs p en ef ea) (n : Nat) : Rf (w.drewN n) o h cap xs p en ef ea := ⟨H.blk, H.row, H.lo, H.hi, H.small, H.byte⟩
/-- A block of another type is turned. -/
theorem Rf.other {g' : Nat} {t : TypeId} {cs : Array Value} (H : Rf w o h cap xs p en ef ea) (ho : Has w g' t cs) (hg : Only w g' w') (h1 : o ≠ g') (ht : t ≠ 5) : Rf w' o h cap xs p en ef ea :=
  H.grown hg (by rintro ⟨⟩; exact h1 rfl) (by
    rintro ⟨⟩
    obtain ⟨cur, hh, _⟩ := H.row
    exact hh.unlike ho (Ne.symm ht) rfl)
/-- Its own block is turned. -/
theorem Rf.moved {p' en' : Nat} {ef' ea' : Int} (H : Rf w o h cap xs p en ef ea) (hg : Only w o w') (hb : Has w' o 71 (rfc h xs.length cap p' en' ef' ea')) (hl : p' ≤ en') (hh : en' ≤ xs.length) : Rf w' o h cap xs p' en' ef' ea' :=
  ⟨hb, H.row.grown hg (by rintro ⟨⟩; exact H.ne_ rfl), hl, hh, H.small, H.byte⟩
theorem Rf.c0 (H : Rf w o h cap xs p en ef ea) : w.cell? ⟨o, 0, none⟩ = some (.slice (some ⟨h, 0, none⟩) xs.length cap) := H.blk.cell 0
theorem Rf.c1 (H : Rf w o h cap xs p en ef ea) : w.cell? ⟨o, 1, none⟩ = some (.int .i64 (p : Int)) := H.blk.cell 1
theorem Rf.c2 (H : Rf w o h cap xs p en ef ea) : w.cell? ⟨o, 2, none⟩ = some (.int .i64 (en : Int)) := H.blk.cell 2
theorem Rf.c3 (H : Rf w o h cap xs p en ef ea) : w.cell? ⟨o, 3, none⟩ = some (.int .i64 ef) := H.blk.cell 3
theorem Rf.c4 (H : Rf w o h cap xs p en ef ea) : w.cell? ⟨o, 4, none⟩ = some (.int .i64 ea) := H.blk.cell 4
end

theorem fleft (o h cap : Nat) (xs : List Int) (p en : Nat) (ef ea : Int) (w : World) (H : Rf w o h cap xs p en ef ea) :
    Calls Try.prog 45 #[.pointer (some ⟨o, 0, none⟩)] w fun e w' => e = .returned (.int .i64 ((en - p : Nat) : Int)) ∧ ∃ n, w' = w.drewN n := by
  have c1 := H.c1
  have c2 := H.c2
  have h1 := H.lo
  have h2 := H.hi
  have h3 := H.small
  clear H
  go_enter Try.func45, Try.ntmps45
  go_wp2
  go_quiet (fail)
  go_wp2
  go_ret
  exact ⟨by simp; omega, _, rfl⟩

theorem ffail_no (o h cap : Nat) (xs : List Int) (p en : Nat) (ef ea : Int) (w : World) (H : Rf w o h cap xs p en ef ea) (x : Int) (hx : (x == 0) = true ∨ (ef == 0) = false) :
    Calls Try.prog 44 #[.pointer (some ⟨o, 0, none⟩), .int .i64 x] w fun e w' => e = .returned (.tuple #[]) ∧ w = w' := by
  have c3 := H.c3
  clear H
  by_cases h0 : x = 0
  · subst h0
    clear hx
    go_enter Try.func44, Try.ntmps44
    go_wp2_with fail
    go_end0
    exact ⟨rfl, rfl⟩
  · have h1 : (x != 0) = true := by simpa using h0
    have h2 : (ef == 0) = false := by
      rcases hx with hx | hx
      · exact absurd (by simpa using hx) h0
      · exact hx
    clear hx h0
    go_enter Try.func44, Try.ntmps44
    go_wp2_with fail
    go_end0
    exact ⟨rfl, rfl⟩

theorem ffail_yes (o h cap : Nat) (xs : List Int) (p en : Nat) (ea : Int) (w : World) (H : Rf w o h cap xs p en 0 ea) (x : Int) (hx : (x != 0) = true) :
    Calls Try.prog 44 #[.pointer (some ⟨o, 0, none⟩), .int .i64 x] w fun e w' => e = .returned (.tuple #[]) ∧ Rf w' o h cap xs p en x p ∧ Only w o w' := by
  have c1 := H.c1
  have c3 := H.c3
  have c4 := H.c4
  have f3 := H.blk.free 3
  have f4 := H.blk.free 4
  have HH := Lib.hid H
  clear H
  go_enter Try.func44, Try.ntmps44
  go_wp2_with fail
  go_end0
  have ho : Only w o ((w.setCell ⟨o, 3, none⟩ (.int .i64 x)).setCell ⟨o, 4, none⟩ (.int .i64 (p : Int))) := only_set (only_set (only_refl w o) (.inl rfl) _) (.inl rfl) _
  exact ⟨rfl, HH.out.moved ho (by simpa using (HH.out.blk.set_ 3 (.int .i64 x)).set_ 4 (.int .i64 (p : Int))) HH.out.lo HH.out.hi, ho⟩

/-- Has of a reader with a fault. -/
theorem fhas_a (o h cap : Nat) (xs : List Int) (p en : Nat) (ef ea : Int) (w : World) (H : Rf w o h cap xs p en ef ea) (n : Int) (hf : (ef == 0) = false) :
    Calls Try.prog 63 #[.pointer (some ⟨o, 0, none⟩), .int .i64 n] w fun e w' => e = .returned (.bool false) ∧ ∃ k, w' = w.drewN k := by
  have c3 := H.c3
  clear H
  go_enter Try.func63, Try.ntmps63
  go_wp2
  go_quiet (fail)
  go_wp2
  go_ret
  exact ⟨by simp, _, rfl⟩

theorem only_setN {w w1 : World} {o : Nat} (h : Only w o w1) (i : Nat) (u : Value) : Only w o (w1.setCell ⟨o, i, none⟩ u) := only_set h (.inl rfl) u

/-- Has of a number below zero, or of more than is left. -/
theorem fhas_b (o h cap : Nat) (xs : List Int) (p en : Nat) (ea : Int) (w : World) (H : Rf w o h cap xs p en 0 ea) (n : Int) (hn : n < 0) :
    Calls Try.prog 63 #[.pointer (some ⟨o, 0, none⟩), .int .i64 n] w fun e w' => e = .returned (.bool false) ∧ Rf w' o h cap xs p en 4 p ∧ Only w o w' := by
  have c1 := H.c1
  have c3 := H.c3
  have c4 := H.c4
  have f3 := H.blk.free 3
  have f4 := H.blk.free 4
  have HH := Lib.hid H
  clear H
  go_enter Try.func63, Try.ntmps63
  go_wp2
  go_quiet (fail)
  go_wp2
  go_ret
  have ho : Only w o (((w.drewN nq).setCell ⟨o, 3, none⟩ (.int .i64 4)).setCell ⟨o, 4, none⟩ (.int .i64 (p : Int))) := only_setN (only_setN (only_drewN (only_refl w o) nq) 3 _) 4 _
  exact ⟨rfl, HH.out.moved ho (by simpa using ((HH.out.drewN nq).blk.set_ 3 (.int .i64 4)).set_ 4 (.int .i64 (p : Int))) HH.out.lo HH.out.hi, ho⟩

theorem fhas_c (o h cap : Nat) (xs : List Int) (p en : Nat) (ea : Int) (w : World) (H : Rf w o h cap xs p en 0 ea) (n : Int) (h0 : 0 ≤ n) (hn : ((en - p : Nat) : Int) < n) :
    Calls Try.prog 63 #[.pointer (some ⟨o, 0, none⟩), .int .i64 n] w fun e w' => e = .returned (.bool false) ∧ Rf w' o h cap xs p en 4 p ∧ Only w o w' := by
  have c1 := H.c1
  have c2 := H.c2
  have c3 := H.c3
  have c4 := H.c4
  have f3 := H.blk.free 3
  have f4 := H.blk.free 4
  have l1 := H.lo
  have l2 := H.hi
  have l3 := H.small
  have hd : decide (n < 0) = false := by simp; omega
  have hw : IntKind.i64.wrap ((en : Int) - (p : Int)) = (en : Int) - (p : Int) := IntWalk.i64_in _ (by omega)
  have hg : decide ((en : Int) - (p : Int) < n) = true := by simp; omega
  have HH := Lib.hid H
  clear H
  go_enter Try.func63, Try.ntmps63
  go_wp2
  go_quiet (fail)
  go_wp2
  go_ret
  have ho : Only w o (((w.drewN nq).setCell ⟨o, 3, none⟩ (.int .i64 4)).setCell ⟨o, 4, none⟩ (.int .i64 (p : Int))) := only_setN (only_setN (only_drewN (only_refl w o) nq) 3 _) 4 _
  exact ⟨rfl, HH.out.moved ho (by simpa using ((HH.out.drewN nq).blk.set_ 3 (.int .i64 4)).set_ 4 (.int .i64 (p : Int))) HH.out.lo HH.out.hi, ho⟩

theorem fhas_d (o h cap : Nat) (xs : List Int) (p en : Nat) (ea : Int) (w : World) (H : Rf w o h cap xs p en 0 ea) (n : Int) (h0 : 0 ≤ n) (hn : n ≤ ((en - p : Nat) : Int)) :
    Calls Try.prog 63 #[.pointer (some ⟨o, 0, none⟩), .int .i64 n] w fun e w' => e = .returned (.bool true) ∧ ∃ k, w' = w.drewN k := by
  have c1 := H.c1
  have c2 := H.c2
  have c3 := H.c3
  have l1 := H.lo
  have l2 := H.hi
  have l3 := H.small
  have hd : decide (n < 0) = false := by simp; omega
  have hw : IntKind.i64.wrap ((en : Int) - (p : Int)) = (en : Int) - (p : Int) := IntWalk.i64_in _ (by omega)
  have hg : decide ((en : Int) - (p : Int) < n) = false := by simp; omega
  clear H
  go_enter Try.func63, Try.ntmps63
  go_wp2
  go_quiet (fail)
  go_wp2
  go_ret
  exact ⟨rfl, _, rfl⟩

end Go.Proofs.Ytlmgbnpimmjijab
