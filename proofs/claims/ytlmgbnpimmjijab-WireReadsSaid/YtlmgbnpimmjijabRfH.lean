/- WireReads: the document's own reader by the pure state of a reader. -/
import Derived.Test.YtlmgbnpimmjijabRfG
namespace Go.Proofs.Ytlmgbnpimmjijab
open Go.RowKit
set_option linter.unusedVariables false

/-- Block o is the document's reader of all these bytes, in this state. -/
structure Os (w : World) (o h cap : Nat) (xs : List Int) (s : RS) : Prop where
  rf : Rf w o h cap xs s.p (s.st + s.bs.length) s.ef s.ea
  part : ∀ n, n ≤ s.st + s.bs.length - s.p → (xs.drop s.p).take n = (s.bs.drop (s.p - s.st)).take n
  lo : s.st ≤ s.p
  ea : s.ef = 0 → s.ea = 0

theorem Os.drewN {w : World} {o h cap : Nat} {xs : List Int} {s : RS} (H : Os w o h cap xs s) (n : Nat) : Os (w.drewN n) o h cap xs s := ⟨H.rf.drewN n, H.part, H.lo, H.ea⟩
theorem Os.below {w w' : World} {o h cap : Nat} {xs : List Int} {s : RS} (H : Os w o h cap xs s) (hb : Below w.heap.size w w') : Os w' o h cap xs s := ⟨H.rf.below hb, H.part, H.lo, H.ea⟩

/-- The three ways of a call, for the document's reader. -/
theorem Os.fault {w : World} {o h cap : Nat} {xs : List Int} {s : RS} (H : Os w o h cap xs s) (hr : Rf w o h cap xs s.p (s.st + s.bs.length) 4 s.p) : Os w o h cap xs { s with ef := 4, ea := s.p } :=
  ⟨hr, H.part, H.lo, fun h => by cases h⟩

theorem fgetS (o h cap : Nat) (xs : List Int) (s : RS) (w : World) (H : Os w o h cap xs s) (m : Nat) (h8 : m ≤ 8) :
    Calls Try.prog 41 #[.pointer (some ⟨o, 0, none⟩), .int .i64 m] w fun e w' => e = .returned (.int .u64 (s.got m)) ∧ Os w' o h cap xs (s.take m).2 ∧ Only w o w' := by
  rcases three s m with h0 | ⟨h0, h1⟩ | ⟨h0, k, hk, h1⟩
  · refine (fget_a o h cap xs _ _ s.ef s.ea w H.rf m (by simpa using h0)).mono ?_
    rintro e w' ⟨rfl, n, rfl⟩
    unfold RS.got
    rw [take_a m h0]
    exact ⟨rfl, H.drewN n, only_drewN (only_refl w o) n⟩
  · have hrf := H.rf
    rw [h0] at hrf
    have h1' : s.st + s.bs.length - s.p < m := by omega
    refine (fget_c o h cap xs _ _ s.ea w hrf m h1').mono ?_
    rintro e w' ⟨rfl, h2, h3⟩
    unfold RS.got
    rw [take_b m h0 h1]
    exact ⟨rfl, ⟨h2, H.part, H.lo, fun h => by cases h⟩, h3⟩
  · have hkm : k = m := by omega
    subst hkm
    have hrf := H.rf
    rw [h0] at hrf
    refine (fget_d o h cap xs _ _ s.ea w hrf k h8 h1).mono ?_
    rintro e w' ⟨rfl, h2, h3⟩
    unfold RS.got
    rw [take_c k h0 h1, H.part k h1]
    refine ⟨rfl, ⟨by rw [← h0] at h2; exact h2, ?_, Nat.le_trans H.lo (Nat.le_add_right _ _), H.ea⟩, h3⟩
    intro n hn
    have hlo := H.lo
    show (xs.drop (s.p + k)).take n = (s.bs.drop (s.p + k - s.st)).take n
    have hq := H.part (k + n) (by show k + n ≤ s.st + s.bs.length - s.p; have : n ≤ s.st + s.bs.length - (s.p + k) := hn; omega)
    have e1 : (xs.drop (s.p + k)).take n = ((xs.drop s.p).take (k + n)).drop k := by rw [List.drop_take, List.drop_drop, Nat.add_sub_cancel_left]
    have e2 : (s.bs.drop (s.p + k - s.st)).take n = ((s.bs.drop (s.p - s.st)).take (k + n)).drop k := by rw [List.drop_take, List.drop_drop, Nat.add_sub_cancel_left, show s.p - s.st + k = s.p + k - s.st from by omega]
    rw [e1, e2, hq]

theorem Os.on {w w' : World} {o h cap : Nat} {xs : List Int} {s : RS} (H : Os w o h cap xs s) (k : Nat) (h1 : k ≤ s.st + s.bs.length - s.p) (hr : Rf w' o h cap xs (s.p + k) (s.st + s.bs.length) s.ef s.ea) : Os w' o h cap xs { s with p := s.p + k } := by
  refine ⟨hr, ?_, Nat.le_trans H.lo (Nat.le_add_right _ _), H.ea⟩
  intro n hn
  have hlo := H.lo
  show (xs.drop (s.p + k)).take n = (s.bs.drop (s.p + k - s.st)).take n
  have hq := H.part (k + n) (by show k + n ≤ s.st + s.bs.length - s.p; have : n ≤ s.st + s.bs.length - (s.p + k) := hn; omega)
  have e1 : (xs.drop (s.p + k)).take n = ((xs.drop s.p).take (k + n)).drop k := by rw [List.drop_take, List.drop_drop, Nat.add_sub_cancel_left]
  have e2 : (s.bs.drop (s.p + k - s.st)).take n = ((s.bs.drop (s.p - s.st)).take (k + n)).drop k := by rw [List.drop_take, List.drop_drop, Nat.add_sub_cancel_left, show s.p - s.st + k = s.p + k - s.st from by omega]
  rw [e1, e2, hq]

theorem ffailS (o h cap : Nat) (xs : List Int) (s : RS) (w : World) (H : Os w o h cap xs s) (x : Int) :
    Calls Try.prog 44 #[.pointer (some ⟨o, 0, none⟩), .int .i64 x] w fun e w' => e = .returned (.tuple #[]) ∧ Os w' o h cap xs (s.fail x) ∧ Only w o w' := by
  by_cases hx : x ≠ 0 ∧ s.ef = 0
  · have hrf := H.rf
    rw [hx.2] at hrf
    refine (ffail_yes o h cap xs _ _ s.ea w hrf x (by simpa using hx.1)).mono ?_
    rintro e w' ⟨rfl, h2, h3⟩
    unfold RS.fail
    rw [if_pos hx]
    exact ⟨rfl, ⟨h2, H.part, H.lo, fun h => absurd h hx.1⟩, h3⟩
  · refine (ffail_no o h cap xs _ _ s.ef s.ea w H.rf x ?_).mono ?_
    · by_cases h0 : x = 0
      · exact .inl (by simpa using h0)
      · exact .inr (by simpa using fun h => hx ⟨h0, h⟩)
    rintro e w' ⟨rfl, rfl⟩
    unfold RS.fail
    rw [if_neg hx]
    exact ⟨rfl, H, only_refl w o⟩

theorem fbytesS (o h cap : Nat) (xs : List Int) (s : RS) (w : World) (H : Os w o h cap xs s) (n : Int) :
    Calls Try.prog 42 #[.pointer (some ⟨o, 0, none⟩), .int .i64 n] w fun e w' => (∃ v, e = .returned v ∧ Got w' w.heap.size v ((s.take n).1.getD [])) ∧ Os w' o h cap xs (s.take n).2 ∧ Only w o w' := by
  rcases three s n with h0 | ⟨h0, h1⟩ | ⟨h0, k, hk, h1⟩
  · refine (fbytes_a o h cap xs _ _ s.ef s.ea w H.rf n (by simpa using h0)).mono ?_
    rintro e w' ⟨rfl, m, rfl⟩
    rw [take_a n h0]
    exact ⟨⟨_, rfl, .inl ⟨rfl, rfl⟩⟩, H.drewN m, only_drewN (only_refl w o) m⟩
  · have hrf := H.rf
    rw [h0] at hrf
    rw [take_b n h0 h1]
    have hcall : Calls Try.prog 42 #[.pointer (some ⟨o, 0, none⟩), .int .i64 n] w fun e w' => e = .returned (.slice none 0 0) ∧ Rf w' o h cap xs s.p (s.st + s.bs.length) 4 s.p ∧ Only w o w' := by
      by_cases hn : n < 0
      · exact fbytes_b o h cap xs _ _ s.ea w hrf n hn
      · exact fbytes_c o h cap xs _ _ s.ea w hrf n (by omega) (by omega)
    refine hcall.mono ?_
    rintro e w' ⟨rfl, h2, h3⟩
    exact ⟨⟨_, rfl, .inl ⟨rfl, rfl⟩⟩, ⟨h2, H.part, H.lo, fun h => by cases h⟩, h3⟩
  · subst hk
    have hea := H.ea h0
    have hrf := H.rf
    rw [h0, hea] at hrf
    rw [take_c k h0 h1]
    have hcall : Calls Try.prog 42 #[.pointer (some ⟨o, 0, none⟩), .int .i64 k] w fun e w' => (∃ v, e = .returned v ∧ Got w' w.heap.size v ((xs.drop s.p).take k)) ∧ Rf w' o h cap xs (s.p + k) (s.st + s.bs.length) 0 0 ∧ Only w o w' := by
      rcases Nat.eq_zero_or_pos k with rfl | hpos
      · have hle : s.p ≤ cap := by
          obtain ⟨_, _, _, _, h5, _⟩ := hrf.row
          exact Nat.le_trans hrf.lo (Nat.le_trans hrf.hi h5)
        rcases Nat.lt_or_eq_of_le hle with hlt | heq
        · exact fbytes_0 o h cap xs _ _ w hrf hlt
        · subst heq
          exact fbytes_1 o h xs _ _ w hrf
      · exact fbytes_d o h cap xs _ _ w hrf k h1 hpos
    refine hcall.mono ?_
    rintro e w' ⟨⟨v, rfl, hv⟩, h2, h3⟩
    rw [H.part k h1] at hv
    exact ⟨⟨v, rfl, hv⟩, H.on k h1 (by rw [h0, hea]; exact h2), h3⟩

theorem fsubS (o h cap : Nat) (xs : List Int) (s : RS) (w : World) (H : Os w o h cap xs s) (n : Int) :
    Calls Try.prog 43 #[.pointer (some ⟨o, 0, none⟩), .int .i64 n] w fun e w' => (∃ o', e = .returned (.pointer (some ⟨o', 0, none⟩)) ∧ w.heap.size ≤ o' ∧ Os w' o' h cap xs (s.sub n)) ∧ Os w' o h cap xs (s.take n).2 ∧ Only w o w' := by
  rcases three s n with h0 | ⟨h0, h1⟩ | ⟨h0, k, hk, h1⟩
  · refine (fsub_a o h cap xs _ _ s.ef s.ea w H.rf n (by simpa using h0)).mono ?_
    rintro e w' ⟨⟨o', rfl, ho, h2⟩, hb⟩
    unfold RS.sub
    rw [take_a n h0]
    exact ⟨⟨o', rfl, ho, ⟨h2, fun n hn => by simp at hn; subst hn; simp, Nat.le_refl _, H.ea⟩⟩, H.below hb, only_below hb o⟩
  · have hrf := H.rf
    rw [h0] at hrf
    unfold RS.sub
    rw [take_b n h0 h1]
    have hcall : Calls Try.prog 43 #[.pointer (some ⟨o, 0, none⟩), .int .i64 n] w fun e w' => (∃ o', e = .returned (.pointer (some ⟨o', 0, none⟩)) ∧ w.heap.size ≤ o' ∧ Rf w' o' h cap xs s.p s.p 4 s.p) ∧ Rf w' o h cap xs s.p (s.st + s.bs.length) 4 s.p ∧ Only w o w' := by
      by_cases hn : n < 0
      · exact fsub_b o h cap xs _ _ s.ea w hrf n hn
      · exact fsub_c o h cap xs _ _ s.ea w hrf n (by omega) (by omega)
    refine hcall.mono ?_
    rintro e w' ⟨⟨o', rfl, ho, h2⟩, h3, h4⟩
    exact ⟨⟨o', rfl, ho, ⟨h2, fun n hn => by simp at hn; subst hn; simp, Nat.le_refl _, fun h => by cases h⟩⟩, ⟨h3, H.part, H.lo, fun h => by cases h⟩, h4⟩
  · subst hk
    have hea := H.ea h0
    have hrf := H.rf
    rw [h0, hea] at hrf
    unfold RS.sub
    rw [take_c k h0 h1]
    refine (fsub_d o h cap xs _ _ w hrf k h1).mono ?_
    rintro e w' ⟨⟨o', rfl, ho, h2⟩, h3, h4⟩
    have hl : ((s.bs.drop (s.p - s.st)).take k).length = k := by
      have := H.lo
      simp
      omega
    refine ⟨⟨o', rfl, ho, ⟨?_, ?_, Nat.le_refl _, H.ea⟩⟩, H.on k h1 (by rw [h0, hea]; exact h3), h4⟩
    · show Rf w' o' h cap xs s.p (s.p + ((s.bs.drop (s.p - s.st)).take k).length) s.ef s.ea
      rw [hl, h0, hea]
      exact h2
    · intro n hn
      have hn' : n ≤ k := by
        have : n ≤ s.p + ((s.bs.drop (s.p - s.st)).take k).length - s.p := hn
        omega
      show (xs.drop s.p).take n = (((s.bs.drop (s.p - s.st)).take k).drop (s.p - s.p)).take n
      rw [Nat.sub_self, List.drop_zero, List.take_take, Nat.min_eq_left hn', H.part n (by omega)]

theorem fleftS (o h cap : Nat) (xs : List Int) (s : RS) (w : World) (H : Os w o h cap xs s) :
    Calls Try.prog 45 #[.pointer (some ⟨o, 0, none⟩)] w fun e w' => e = .returned (.int .i64 ((s.st + s.bs.length - s.p : Nat) : Int)) ∧ ∃ n, w' = w.drewN n :=
  fleft o h cap xs _ _ _ _ w H.rf

end Go.Proofs.Ytlmgbnpimmjijab
