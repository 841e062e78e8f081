/- Readers: copies of bytes, readers of parts, faults; by the pure state of a reader. -/
import Derived.Test.YtjachhgcoioohaaRdE
namespace Go.Proofs.Ytjachhgcoioohaa
open Go.RowKit
set_option maxRecDepth 100000

/-- A slice that reads as these bytes: nil, or an array of its own from base on. -/
def Got (w : World) (base : Nat) (v : Value) (xs : List Int) : Prop :=
  (v = .slice none 0 0 ∧ xs = []) ∨ ∃ h' c', v = .slice (some ⟨h', 0, none⟩) xs.length c' ∧ Row w h' c' xs ∧ base ≤ h'

theorem Got.below {w w' : World} {base : Nat} {v : Value} {xs : List Int} (h : Got w base v xs) (hb : Below w.heap.size w w') : Got w' base v xs := by
  rcases h with h | ⟨h', c', h1, h2, h3⟩
  · exact .inl h
  · exact .inr ⟨h', c', h1, h2.below hb, h3⟩

theorem rbytes (g h cap : Nat) (s : RS) (w : World) (H : RdS w g h cap s) (n : Int) :
    Calls Try.prog 157 #[.pointer (some ⟨g, 0, none⟩), .int .i64 n] w fun e w' => (∃ v, e = .returned v ∧ Got w' w.heap.size v ((s.take n).1.getD [])) ∧ RdS w' g h cap (s.take n).2 ∧ Only w g w' := by
  have HH : Hid (RdS w g h cap s) := Lib.hid H
  clear H
  rcases three s n with h0 | ⟨h0, h1⟩ | ⟨h0, m, hm, h1⟩
  · have e2 : Hid (s.take n = (none, s)) := Lib.hid (take_a n h0)
    have h0' : (s.ef != 0) = true := by simpa using h0
    have H0 := Lib.hid h0'
    clear h0 h0'
    go_enter Try.func157, Try.ntmps157
    go_wp2_with (first
      | (go_at_call 115; refine (rtake_fault _ _ _ _ _ _ _ _ _ HH.out n H0.out).mono ?_; rintro e w' ⟨rfl, h2⟩)
      | (go_at_call 78; refine (rclone_nil _).mono ?_; rintro e w' ⟨rfl, rfl⟩))
    go_ret
    rw [e2.out]
    exact ⟨⟨_, rfl, .inl ⟨rfl, rfl⟩⟩, HH.out.below h2, only_below h2 g⟩
  · have e2 : Hid (s.take n = (none, { s with ef := 4, ea := s.p })) := Lib.hid (take_b n h0 h1)
    have HR := Lib.hid (rd0 HH.out h0)
    have H1 := Lib.hid h1
    clear h0 h1
    go_enter Try.func157, Try.ntmps157
    go_wp2_with (first
      | (go_at_call 115; refine (rtake_short _ _ _ _ _ _ _ _ HR.out n H1.out).mono ?_; rintro e w' ⟨rfl, h2, h3⟩; have H2 := Lib.hid h2; clear h2)
      | (go_at_call 78; refine (rclone_nil _).mono ?_; rintro e w' ⟨rfl, rfl⟩))
    go_ret
    rw [e2.out]
    exact ⟨⟨_, rfl, .inl ⟨rfl, rfl⟩⟩, H2.out, h3⟩
  · subst hm
    have e2 : Hid (s.take m = (some ((s.bs.drop (s.p - s.st)).take m), { s with p := s.p + m })) := Lib.hid (take_c m h0 h1)
    have HR := Lib.hid (rd0 HH.out h0)
    have HL := Lib.hid (part_len HH.out h1)
    have hm : m ≤ 1000000 := by have := HH.out.small; have := HH.out.lo; omega
    have H1 := Lib.hid h1
    have H0 := Lib.hid h0
    clear h0 h1
    go_enter Try.func157, Try.ntmps157
    go_wp2_with (first
      | (go_at_call 115; refine (rtake_ok _ _ _ _ _ _ _ _ HR.out m H1.out).mono ?_; rintro e w1 ⟨⟨o, ⟨c, rfl⟩, hsl⟩, h2, h3⟩; have H2 := Lib.hid h2; clear h2; have HS := Lib.hid hsl; clear hsl)
      | (go_at_call 78; refine (rclone _ _ _ _ _ HL.out hm _ HS.out).mono ?_; rintro e w2 ⟨⟨h', c', rfl, hrow, hh⟩, hb2⟩; have HRow := Lib.hid hrow; clear hrow))
    go_ret
    rw [e2.out]
    refine ⟨⟨_, rfl, .inr ⟨h', c', ?_, HRow.out, Nat.le_trans h3.size hh⟩⟩, ?_, only_trans h3 (only_below hb2 g)⟩
    · show Value.slice (some ⟨h', 0, none⟩) m c' = Value.slice (some ⟨h', 0, none⟩) ((s.bs.drop (s.p - s.st)).take m).length c'
      rw [HL.out]
    · show Rd _ g h cap s.bs s.st (s.p + m) s.ef s.ea
      rw [H0.out]
      exact H2.out.below hb2

theorem rbytes_nil (w : World) (n : Int) :
    Calls Try.prog 157 #[.pointer none, .int .i64 n] w fun e w' => e = .returned (.slice none 0 0) ∧ Below w.heap.size w w' := by
  go_enter Try.func157, Try.ntmps157
  go_wp2_with (first
    | (go_at_call 115; refine (rtake_nil _ n).mono ?_; rintro e w' ⟨rfl, h2⟩)
    | (go_at_call 78; refine (rclone_nil _).mono ?_; rintro e w' ⟨rfl, rfl⟩))
  go_ret
  exact ⟨rfl, h2⟩

theorem rsub_nil (w : World) (n : Int) :
    Calls Try.prog 82 #[.pointer none, .int .i64 n] w fun e w' => e = .returned (.pointer none) ∧ w = w' := by
  go_enter Try.func82, Try.ntmps82
  go_wp2_with (go_at_call 116; refine (rvalid_no _).mono ?_; rintro e w' ⟨rfl, rfl⟩)
  go_ret
  exact ⟨rfl, rfl⟩

theorem rU8_nil (w : World) :
    Calls Try.prog 81 #[.pointer none] w fun e w' => e = .returned (.int .u64 0) ∧ Below w.heap.size w w' := by
  go_enter Try.func81, Try.ntmps81
  go_wp2_with (first
    | (go_at_call 115; refine (rtake_nil _ 1).mono ?_; rintro e w' ⟨rfl, h2⟩)
    | (go_at_call 114; refine (rget_nil _).mono ?_; rintro e w' ⟨rfl, rfl⟩))
  go_ret
  exact ⟨rfl, h2⟩

theorem rU48_nil (w : World) :
    Calls Try.prog 161 #[.pointer none] w fun e w' => e = .returned (.int .u64 0) ∧ Below w.heap.size w w' := by
  go_enter Try.func161, Try.ntmps161
  go_wp2_with (first
    | (go_at_call 115; refine (rtake_nil _ 6).mono ?_; rintro e w' ⟨rfl, h2⟩)
    | (go_at_call 114; refine (rget_nil _).mono ?_; rintro e w' ⟨rfl, rfl⟩))
  go_ret
  exact ⟨rfl, h2⟩


theorem rsub (g h cap : Nat) (s : RS) (w : World) (H : RdS w g h cap s) (n : Int) :
    Calls Try.prog 82 #[.pointer (some ⟨g, 0, none⟩), .int .i64 n] w fun e w' => (∃ g' h' c', e = .returned (.pointer (some ⟨g', 0, none⟩)) ∧ w.heap.size ≤ g' ∧ w.heap.size ≤ h' ∧ RdS w' g' h' c' (s.sub n)) ∧ RdS w' g h cap (s.take n).2 ∧ Only w g w' := by
  have HH : Hid (RdS w g h cap s) := Lib.hid H
  have c1 := H.c1
  have hgl : g < w.heap.size := H.blk.lt
  have hps : s.p ≤ 1000000 := by have := H.hi; have := H.small; omega
  clear H
  rcases three s n with h0 | ⟨h0, h1⟩ | ⟨h0, m, hm, h1⟩
  · have e2 : Hid (s.take n = (none, s)) := Lib.hid (take_a n h0)
    have h0' : (s.ef != 0) = true := by simpa using h0
    have H0 := Lib.hid h0'
    clear h0 h0'
    go_enter Try.func82, Try.ntmps82
    go_wp2_with (first
      | (go_at_call 116; refine (rvalid_yes _ _ _ _ _ _ _ _ _ HH.out).mono ?_; rintro e w' ⟨rfl, rfl⟩)
      | (go_at_call 115; refine (rtake_fault _ _ _ _ _ _ _ _ _ HH.out n H0.out).mono ?_; rintro e w1 ⟨rfl, h2⟩; have HA := Lib.hid (HH.out.below h2); have HO := Lib.hid (only_below h2 g); clear h2))
    clear c1
    refine (rreader_nil s.p hps _).mono ?_
    rintro e w2 ⟨g', h', c', rfl, hg1, hg2, hr, hb2⟩
    have hg3 : Only w g w1 := HO.out
    have H4 : Hid (RdS w2 g h cap s) := Lib.hid (HA.out.below hb2)
    have c4 := H4.out.c4
    have c5 := H4.out.c5
    have d4 := hr.c4
    have d5 := hr.c5
    have f4 := hr.blk.free 4
    have f5 := hr.blk.free 5
    have HR2 := Lib.hid hr
    clear hr
    go_wp2
    go_ret
    have hne : g ≠ g' := by have := hg3.size; omega
    have hn := (HR2.out.blk.set_ 4 (.int .i64 s.ef)).set_ 5 (.int .i64 s.ea)
    have ho2 : Only w2 g' ((w2.setCell ⟨g', 4, none⟩ (.int .i64 s.ef)).setCell ⟨g', 5, none⟩ (.int .i64 s.ea)) := only_set (only_set (only_refl w2 g') (.inl rfl) _) (.inl rfl) _
    have hrow := hg3.size
    refine ⟨⟨g', h', c', rfl, by omega, by omega, ?_⟩, ?_, ?_⟩
    · unfold RS.sub RdS
      rw [e2.out]
      exact HR2.out.moved ho2 (by simpa using hn) (Nat.le_refl _) (Nat.le_add_right _ _)
    · rw [e2.out]
      skip
      exact H4.out.other HR2.out.blk ho2 hne
    · have hs2 := hb2.size
      exact only_set (only_set (only_trans hg3 (only_below hb2 g)) (.inr (by simp; omega)) _) (.inr (by simp; omega)) _
  · have e2 : Hid (s.take n = (none, { s with ef := 4, ea := s.p })) := Lib.hid (take_b n h0 h1)
    have HR := Lib.hid (rd0 HH.out h0)
    have H1 := Lib.hid h1
    clear h0 h1
    go_enter Try.func82, Try.ntmps82
    go_wp2_with (first
      | (go_at_call 116; refine (rvalid_yes _ _ _ _ _ _ _ _ _ HH.out).mono ?_; rintro e w' ⟨rfl, rfl⟩)
      | (go_at_call 115; refine (rtake_short _ _ _ _ _ _ _ _ HR.out n H1.out).mono ?_; rintro e w1 ⟨rfl, h2, h3⟩; have HA := Lib.hid h2; clear h2; have HO := Lib.hid h3; clear h3))
    clear c1
    refine (rreader_nil s.p hps _).mono ?_
    rintro e w2 ⟨g', h', c', rfl, hg1, hg2, hr, hb2⟩
    have hg3 : Only w g w1 := HO.out
    have H4 : Hid (Rd w2 g h cap s.bs s.st s.p 4 s.p) := Lib.hid (HA.out.below hb2)
    have c4 := H4.out.c4
    have c5 := H4.out.c5
    have d4 := hr.c4
    have d5 := hr.c5
    have f4 := hr.blk.free 4
    have f5 := hr.blk.free 5
    have HR2 := Lib.hid hr
    clear hr
    go_wp2
    go_ret
    have hne : g ≠ g' := by have := hg3.size; omega
    have hn := (HR2.out.blk.set_ 4 (.int .i64 4)).set_ 5 (.int .i64 s.p)
    have ho2 : Only w2 g' ((w2.setCell ⟨g', 4, none⟩ (.int .i64 4)).setCell ⟨g', 5, none⟩ (.int .i64 s.p)) := only_set (only_set (only_refl w2 g') (.inl rfl) _) (.inl rfl) _
    have hrow := hg3.size
    refine ⟨⟨g', h', c', rfl, by omega, by omega, ?_⟩, ?_, ?_⟩
    · unfold RS.sub RdS
      rw [e2.out]
      exact HR2.out.moved ho2 (by simpa using hn) (Nat.le_refl _) (Nat.le_add_right _ _)
    · rw [e2.out]
      skip
      exact H4.out.other HR2.out.blk ho2 hne
    · have hs2 := hb2.size
      exact only_set (only_set (only_trans hg3 (only_below hb2 g)) (.inr (by simp; omega)) _) (.inr (by simp; omega)) _
  · have e2 : Hid (s.take n = (some ((s.bs.drop (s.p - s.st)).take m), { s with p := s.p + m })) := Lib.hid (by rw [hm]; exact take_c m h0 h1)
    have HR := Lib.hid (rd0 HH.out h0)
    have HL := Lib.hid (part_len HH.out h1)
    have HB := Lib.hid (part_byte HH.out (s.p - s.st) m)
    have hmm : s.p + m ≤ 1000000 := by have := HH.out.small; have := HH.out.hi; omega
    have H1 := Lib.hid h1
    have H0 := Lib.hid h0
    subst hm
    clear h0 h1
    go_enter Try.func82, Try.ntmps82
    go_wp2_with (first
      | (go_at_call 116; refine (rvalid_yes _ _ _ _ _ _ _ _ _ HH.out).mono ?_; rintro e w' ⟨rfl, rfl⟩)
      | (go_at_call 115; refine (rtake_ok _ _ _ _ _ _ _ _ HR.out m H1.out).mono ?_; rintro e w1 ⟨⟨o, ⟨c, rfl⟩, hsl⟩, h2, h3⟩; have HA := Lib.hid h2; clear h2; have HS := Lib.hid hsl; clear hsl; have HO := Lib.hid h3; clear h3))
    clear c1
    refine (rreader _ _ _ s.p _ HL.out hmm _ HS.out.at_ HB.out).mono ?_
    rintro e w2 ⟨g', h', c', rfl, hg1, hg2, hr, hb2⟩
    have hg3 : Only w g w1 := HO.out
    have H4 : Hid (Rd w2 g h cap s.bs s.st (s.p + m) 0 s.ea) := Lib.hid (HA.out.below hb2)
    have c4 := H4.out.c4
    have c5 := H4.out.c5
    have d4 := hr.c4
    have d5 := hr.c5
    have f4 := hr.blk.free 4
    have f5 := hr.blk.free 5
    have HR2 := Lib.hid hr
    clear hr
    go_wp2
    go_ret
    have hne : g ≠ g' := by have := hg3.size; omega
    have hn := (HR2.out.blk.set_ 4 (.int .i64 0)).set_ 5 (.int .i64 s.ea)
    have ho2 : Only w2 g' ((w2.setCell ⟨g', 4, none⟩ (.int .i64 0)).setCell ⟨g', 5, none⟩ (.int .i64 s.ea)) := only_set (only_set (only_refl w2 g') (.inl rfl) _) (.inl rfl) _
    have hrow := hg3.size
    refine ⟨⟨g', h', c', rfl, by omega, by omega, ?_⟩, ?_, ?_⟩
    · unfold RS.sub RdS
      rw [e2.out]
      exact HR2.out.moved ho2 (by simpa [H0.out] using hn) (Nat.le_refl _) (Nat.le_add_right _ _)
    · rw [e2.out]
      show Rd _ g h cap s.bs s.st (s.p + m) s.ef s.ea
      rw [H0.out]
      exact H4.out.other HR2.out.blk ho2 hne
    · have hs2 := hb2.size
      exact only_set (only_set (only_trans hg3 (only_below hb2 g)) (.inr (by simp; omega)) _) (.inr (by simp; omega)) _

theorem rfail (g h cap : Nat) (s : RS) (w : World) (H : RdS w g h cap s) (x : Int) :
    Calls Try.prog 127 #[.pointer (some ⟨g, 0, none⟩), .int .i64 x] w fun e w' => e = .returned (.tuple #[]) ∧ RdS w' g h cap (s.fail x) ∧ Only w g w' := by
  by_cases h0 : x ≠ 0 ∧ s.ef = 0
  · refine (rfail_yes _ _ _ _ _ _ _ _ (rd0 H h0.2) x (by simpa using h0.1)).mono ?_
    rintro e w' ⟨rfl, h2, h3⟩
    refine ⟨rfl, ?_, h3⟩
    unfold RS.fail
    rw [if_pos h0]
    exact h2
  · refine (rfail_no _ _ _ _ _ _ _ _ _ H x (by
      by_cases h1 : x = 0
      · exact .inl (by simpa using h1)
      · exact .inr (by simp; intro h2; exact h0 ⟨h1, h2⟩))).mono ?_
    rintro e w' ⟨rfl, rfl⟩
    refine ⟨rfl, ?_, only_refl w g⟩
    unfold RS.fail
    rw [if_neg h0]
    exact H

end Go.Proofs.Ytjachhgcoioohaa
