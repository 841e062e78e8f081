/- Readers: copies of bytes, readers of parts, faults; by the pure state of a reader. -/
import Derived.Test.YtgdfpmnbofnjfaaRdE
namespace Go.Proofs.Ytgdfpmnbofnjfaa
open Go.RowKit
set_option maxRecDepth 100000

/-- A slice that reads as these bytes: nil, or an array of its own from base on. -/
def Got (w : World) (base : Nat) (v : Value) (xs : List Int) : Prop :=
  (v = .slice none 0 0 ∧ xs = []) ∨ ∃ h' c', v = .slice (some ⟨h', 0, none⟩) xs.length c' ∧ Row w h' c' xs ∧ base ≤ h'

theorem Got.below {w w' : World} {base : Nat} {v : Value} {xs : List Int} (h : Got w base v xs) (hb : Below w.heap.size w w') : Got w' base v xs := by
  rcases h with h | ⟨h', c', h1, h2, h3⟩
  · exact .inl h
  · exact .inr ⟨h', c', h1, h2.below hb, h3⟩

theorem rbytes (g h cap : Nat) (s : RS) (w : World) (H : RdS w g h cap s) (n : Int) :
    Calls Try.prog 44 #[.pointer (some ⟨g, 0, none⟩), .int .i64 n] w fun e w' => (∃ v, e = .returned v ∧ Got w' w.heap.size v ((s.take n).1.getD [])) ∧ RdS w' g h cap (s.take n).2 ∧ Only w g w' := by
  have HH : Hid (RdS w g h cap s) := Lib.hid H
  clear H
  rcases three s n with h0 | ⟨h0, h1⟩ | ⟨h0, m, hm, h1⟩
  · have e2 : Hid (s.take n = (none, s)) := Lib.hid (take_a n h0)
    have h0' : (s.ef != 0) = true := by simpa using h0
    have H0 := Lib.hid h0'
    clear h0 h0'
    go_enter Try.func44, Try.ntmps44
    go_wp2_with (first
      | (go_at_call 70; refine (rtake_fault _ _ _ _ _ _ _ _ _ HH.out n H0.out).mono ?_; rintro e w' ⟨rfl, h2⟩)
      | (go_at_call 69; refine (rclone_nil _).mono ?_; rintro e w' ⟨rfl, rfl⟩))
    go_ret
    rw [e2.out]
    exact ⟨⟨_, rfl, .inl ⟨rfl, rfl⟩⟩, HH.out.below h2, only_below h2 g⟩
  · have e2 : Hid (s.take n = (none, { s with ef := 4, ea := s.p })) := Lib.hid (take_b n h0 h1)
    have HR := Lib.hid (rd0 HH.out h0)
    have H1 := Lib.hid h1
    clear h0 h1
    go_enter Try.func44, Try.ntmps44
    go_wp2_with (first
      | (go_at_call 70; refine (rtake_short _ _ _ _ _ _ _ _ HR.out n H1.out).mono ?_; rintro e w' ⟨rfl, h2, h3⟩; have H2 := Lib.hid h2; clear h2)
      | (go_at_call 69; refine (rclone_nil _).mono ?_; rintro e w' ⟨rfl, rfl⟩))
    go_ret
    rw [e2.out]
    exact ⟨⟨_, rfl, .inl ⟨rfl, rfl⟩⟩, H2.out, h3⟩
  · subst hm
    have e2 : Hid (s.take m = (some ((s.bs.drop (s.p - s.st)).take m), { s with p := s.p + m })) := Lib.hid (take_c m h0 h1)
    have HR := Lib.hid (rd0 HH.out h0)
    have HL := Lib.hid (part_len HH.out h1)
    have hm : m ≤ 1000000 := by have := HH.out.small; have := HH.out.lo; omega
    have H1 := Lib.hid h1
    have H0 := Lib.hid h0
    clear h0 h1
    go_enter Try.func44, Try.ntmps44
    go_wp2_with (first
      | (go_at_call 70; refine (rtake_ok _ _ _ _ _ _ _ _ HR.out m H1.out).mono ?_; rintro e w1 ⟨⟨o, ⟨c, rfl⟩, hsl⟩, h2, h3⟩; have H2 := Lib.hid h2; clear h2; have HS := Lib.hid hsl; clear hsl)
      | (go_at_call 69; refine (rclone _ _ _ _ _ HL.out hm _ HS.out).mono ?_; rintro e w2 ⟨⟨h', c', rfl, hrow, hh⟩, hb2⟩; have HRow := Lib.hid hrow; clear hrow))
    go_ret
    rw [e2.out]
    refine ⟨⟨_, rfl, .inr ⟨h', c', ?_, HRow.out, Nat.le_trans h3.size hh⟩⟩, ?_, only_trans h3 (only_below hb2 g)⟩
    · show Value.slice (some ⟨h', 0, none⟩) m c' = Value.slice (some ⟨h', 0, none⟩) ((s.bs.drop (s.p - s.st)).take m).length c'
      rw [HL.out]
    · show Rd _ g h cap s.bs s.st (s.p + m) s.ef s.ea
      rw [H0.out]
      exact H2.out.below hb2

theorem rbytes_nil (w : World) (n : Int) :
    Calls Try.prog 44 #[.pointer none, .int .i64 n] w fun e w' => e = .returned (.slice none 0 0) ∧ Below w.heap.size w w' := by
  go_enter Try.func44, Try.ntmps44
  go_wp2_with (first
    | (go_at_call 70; refine (rtake_nil _ n).mono ?_; rintro e w' ⟨rfl, h2⟩)
    | (go_at_call 69; refine (rclone_nil _).mono ?_; rintro e w' ⟨rfl, rfl⟩))
  go_ret
  exact ⟨rfl, h2⟩

theorem rU8_nil (w : World) :
    Calls Try.prog 45 #[.pointer none] w fun e w' => e = .returned (.int .u64 0) ∧ Below w.heap.size w w' := by
  go_enter Try.func45, Try.ntmps45
  go_wp2_with (first
    | (go_at_call 70; refine (rtake_nil _ 1).mono ?_; rintro e w' ⟨rfl, h2⟩)
    | (go_at_call 71; refine (rget_nil _).mono ?_; rintro e w' ⟨rfl, rfl⟩))
  go_ret
  exact ⟨rfl, h2⟩

theorem rU48_nil (w : World) :
    Calls Try.prog 48 #[.pointer none] w fun e w' => e = .returned (.int .u64 0) ∧ Below w.heap.size w w' := by
  go_enter Try.func48, Try.ntmps48
  go_wp2_with (first
    | (go_at_call 70; refine (rtake_nil _ 6).mono ?_; rintro e w' ⟨rfl, h2⟩)
    | (go_at_call 71; refine (rget_nil _).mono ?_; rintro e w' ⟨rfl, rfl⟩))
  go_ret
  exact ⟨rfl, h2⟩


theorem rfail (g h cap : Nat) (s : RS) (w : World) (H : RdS w g h cap s) (x : Int) :
    Calls Try.prog 85 #[.pointer (some ⟨g, 0, none⟩), .int .i64 x] w fun e w' => e = .returned (.tuple #[]) ∧ RdS w' g h cap (s.fail x) ∧ Only w g w' := by
  by_cases h0 : x ≠ 0 ∧ s.ef = 0
  · refine (rfail_yes _ _ _ _ _ _ _ _ (rd0 H h0.2) x (by simpa using h0.1)).mono ?_
    rintro e w' ⟨rfl, h2, h3⟩
    refine ⟨rfl, ?_, h3⟩
    unfold RS.fail
    rw [if_pos h0]
    exact h2
  · refine (rfail_no _ _ _ _ _ _ _ _ _ H x (by
      by_cases h1 : x = 0
      · exact .inl (by simpa using h1)
      · exact .inr (by simp; intro h2; exact h0 ⟨h1, h2⟩))).mono ?_
    rintro e w' ⟨rfl, rfl⟩
    refine ⟨rfl, ?_, only_refl w g⟩
    unfold RS.fail
    rw [if_neg h0]
    exact H

end Go.Proofs.Ytgdfpmnbofnjfaa
