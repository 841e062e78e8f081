/- Writers: numbers. -/
import Derived.Test.YtgdfpmnbofnjfaaWrD
namespace Go.Proofs.Ytgdfpmnbofnjfaa
open Go.RowKit Go.Maps
set_option maxRecDepth 100000
set_option linter.unusedVariables false

/-- A call of a writer has ended: its result, the writer, what has turned. -/
def Wrote (w : World) (g : Nat) (A : Option Addr) (b n : Nat) (s2 : WS) (r : Int) (e : Ending) (w' : World) : Prop :=
  ∃ A2 c2, e = .returned (.int .i64 r) ∧ Wr w' g A2 c2 b n s2 ∧ Turn (g :: b :: blkOf A) w w' ∧ ∀ x ∈ blkOf A2, x ∈ blkOf A ∨ w.heap.size ≤ x

theorem Wr.wrote {w w' : World} {g h c b n : Nat} {s : WS} (H : Wr w g (some ⟨h, 0, none⟩) c b n s) (ho : Only w h w') {out2 : List Int} (hr : Row w' h c out2) (hl : out2.length = s.out.length) (hb : ∀ v ∈ out2, 0 ≤ v ∧ v ≤ 255) :
    Wr w' g (some ⟨h, 0, none⟩) c b n { s with out := out2 } := by
  have hne := H.ne_
  have h1 : g ≠ h := by have := hne.2.1; simpa [blkOf] using this
  have h2 : b ≠ h := by have := hne.2.2; simpa [blkOf] using this
  refine ⟨?_, .inr ⟨h, rfl, hr⟩, H.map.kept ((turn_only ho).block b H.map.lt (by simpa using h2)), by rw [hl]; exact H.cnt, by rw [hl]; exact H.room, H.top, hb, by rw [hl]; exact H.open_⟩
  rw [hl]
  exact H.blk.turn (turn_only ho) (by simpa using h1)

def WS.put (s : WS) (v : Int) (m : Nat) : Int × WS :=
  if 256 ^ m ≤ v then (2, s) else if s.lim - s.out.length < m then (7, s) else (0, { s with out := s.out ++ be v m })

theorem Wr.row {w : World} {g h c b n : Nat} {s : WS} (H : Wr w g (some ⟨h, 0, none⟩) c b n s) : Row w h c s.out := by
  rcases H.buf with ⟨h1, _⟩ | ⟨h', h1, hr⟩
  · cases h1
  · injection h1 with h1
    injection h1 with h1
    subst h1
    exact hr

theorem pow_shift (v : Int) (m : Nat) (h0 : 0 ≤ v) : (v / 2 ^ (8 * m) != 0) = decide ((256 : Int) ^ m ≤ v) := by
  rw [pow_eight, Bool.eq_iff_iff]
  have hp : (0 : Int) < 256 ^ m := Int.pow_pos (by omega)
  simp only [bne_iff_ne, ne_eq, decide_eq_true_eq]
  constructor
  · intro h
    apply Decidable.byContradiction
    intro hlt
    exact h (Int.ediv_eq_zero_of_lt h0 (by omega))
  · intro h he
    have h1 := Int.le_ediv_of_mul_le hp (by rwa [Int.one_mul] : 1 * (256 : Int) ^ m ≤ v)
    omega

set_option maxHeartbeats 1000000 in
theorem wnumber (g : Nat) (A : Option Addr) (c b n : Nat) (s : WS) (w : World) (H : Wr w g A c b n s) (v : Int) (h0 : 0 ≤ v) (h1 : v < 18446744073709551616) (m : Nat) (hm1 : 1 ≤ m) (hm : m ≤ 8) :
    Calls Try.prog 72 #[.pointer (some ⟨g, 0, none⟩), .int .u64 v, .int .i64 m] w (Wrote w g A b n (s.put v m).2 (s.put v m).1) := by
  have HH := Lib.hid H
  clear H
  have hp := pow_shift v m h0
  by_cases hr : (256 : Int) ^ m ≤ v
  · have e : Hid (s.put v m = (2, s)) := Lib.hid (by unfold WS.put; rw [if_pos hr])
    have hq : (v / 2 ^ (8 * m) != 0) = true := by rw [hp]; simpa using hr
    clear hp hr
    go_enter Try.func72, Try.ntmps72
    go_wp2_with (go_at_call 73; refine (wvalid_yes _ _ _ _ _ _ _ HH.out).mono ?_; rintro e w' ⟨rfl, rfl⟩)
    go_ret
    rw [e.out]
    exact ⟨A, c, rfl, HH.out, Turn.refl _ _, fun x hx => .inl hx⟩
  · have hq : (v / 2 ^ (8 * m) != 0) = false := by rw [hp]; simpa using hr
    clear hp
    by_cases hf : s.lim - s.out.length < m
    · have e : Hid (s.put v m = (7, s)) := Lib.hid (by unfold WS.put; rw [if_neg hr, if_pos hf])
      have HF := Lib.hid hf
      clear hr hf
      go_enter Try.func72, Try.ntmps72
      go_wp2_with (first
        | (go_at_call 73; refine (wvalid_yes _ _ _ _ _ _ _ HH.out).mono ?_; rintro e w' ⟨rfl, rfl⟩)
        | (go_at_call 87; refine (wextend_full _ _ _ _ _ _ _ HH.out m HF.out (by omega)).mono ?_; rintro e w' ⟨rfl, rfl⟩)
        | (go_at_call 88; refine (wput_nil v _ 0 0 none rfl).mono ?_; rintro e w' ⟨rfl, rfl⟩))
      go_ret
      rw [e.out]
      exact ⟨A, c, rfl, HH.out, Turn.refl _ _, fun x hx => .inl hx⟩
    · have e : Hid (s.put v m = (0, { s with out := s.out ++ be v m })) := Lib.hid (by unfold WS.put; rw [if_neg hr, if_neg hf])
      have HF : Hid (m ≤ s.lim - s.out.length) := Lib.hid (by omega)
      clear hr hf
      go_enter Try.func72, Try.ntmps72
      go_wp2_with (go_at_call 73; refine (wvalid_yes _ _ _ _ _ _ _ HH.out).mono ?_; rintro e w' ⟨rfl, rfl⟩)
      refine (wextend_ok _ _ _ _ _ _ _ HH.out m HF.out).mono ?_
      rintro e1 w1 ⟨A2, c2, As, cs, rfl, hw, hs, ht, hn⟩
      obtain ⟨h, rfl, rfl⟩ := hs (by omega)
      have hlen : (s.out ++ List.replicate m (0 : Int)).length = s.out.length + m := by simp
      have HL : Hid (s.out.length + m ≤ (s.out ++ List.replicate m (0 : Int)).length ∧ (s.out ++ List.replicate m (0 : Int)).length ≤ 1000000) := by
        have h1 := hw.room
        have h2 := HH.out.top
        simp only [hlen] at h1 ⊢
        exact Lib.hid ⟨Nat.le_refl _, by omega⟩
      have HW := Lib.hid hw
      have HT := Lib.hid ht
      have HN := Lib.hid hn
      clear hw hs ht hn hlen
      go_wp2_with fail
      refine (wput64 h s.out.length m cs c2 (s.out ++ List.replicate m 0) v w1 hm HL.out.1 h0 h1 HW.out.row HL.out.2).mono ?_
      rintro e2 w2 ⟨rfl, hrow, ho⟩
      have e3 : (s.out ++ List.replicate m (0 : Int)).take s.out.length ++ be v m ++ (s.out ++ List.replicate m (0 : Int)).drop (s.out.length + m) = s.out ++ be v m := by
        rw [List.take_left, List.drop_eq_nil_of_le (by simp), List.append_nil]
      rw [e3] at hrow
      have hw2 := HW.out.wrote ho hrow (by simp [be_length]) (by
        intro x hx
        rcases List.mem_append.1 hx with hx | hx
        · exact HH.out.byte x hx
        · exact be_byte v m x hx)
      have HW2 := Lib.hid hw2
      have HT2 : Hid (Turn (g :: b :: blkOf A) w w2) := Lib.hid ((HT.out.mono (fun x hx => .inl (by simp only [List.mem_cons] at hx ⊢; rcases hx with hx | hx; exact .inl hx; exact .inr (.inr hx)))).then_ (turn_only ho) (fun x hx => by
        simp only [List.mem_singleton] at hx
        subst hx
        rcases HN.out x (by simp [blkOf]) with h1 | h1
        · exact .inl (by simp [h1])
        · exact .inr h1))
      clear e3 hrow ho hw2
      go_wp2_with fail
      go_ret
      rw [e.out]
      exact ⟨_, _, rfl, HW2.out, HT2.out, HN.out⟩

theorem wU1 (g : Nat) (A : Option Addr) (c b n : Nat) (s : WS) (w : World) (H : Wr w g A c b n s) (v : Int) (h0 : 0 ≤ v) (h1 : v < 18446744073709551616) :
    Calls Try.prog 65 #[.pointer (some ⟨g, 0, none⟩), .int .u64 v] w (Wrote w g A b n (s.put v 1).2 (s.put v 1).1) := by
  have HH := Lib.hid H
  clear H
  go_enter Try.func65, Try.ntmps65
  go_wp2_with (go_at_call 72; refine (wnumber _ _ _ _ _ _ _ HH.out v h0 h1 1 (by omega) (by omega)).mono ?_; rintro e w' ⟨A2, c2, rfl, hw, ht, hn⟩; have HW := Lib.hid hw; have HT := Lib.hid ht; have HN := Lib.hid hn; clear hw ht hn)
  go_ret
  exact ⟨A2, c2, rfl, HW.out, HT.out, HN.out⟩

theorem wU2 (g : Nat) (A : Option Addr) (c b n : Nat) (s : WS) (w : World) (H : Wr w g A c b n s) (v : Int) (h0 : 0 ≤ v) (h1 : v < 18446744073709551616) :
    Calls Try.prog 53 #[.pointer (some ⟨g, 0, none⟩), .int .u64 v] w (Wrote w g A b n (s.put v 2).2 (s.put v 2).1) := by
  have HH := Lib.hid H
  clear H
  go_enter Try.func53, Try.ntmps53
  go_wp2_with (go_at_call 72; refine (wnumber _ _ _ _ _ _ _ HH.out v h0 h1 2 (by omega) (by omega)).mono ?_; rintro e w' ⟨A2, c2, rfl, hw, ht, hn⟩; have HW := Lib.hid hw; have HT := Lib.hid ht; have HN := Lib.hid hn; clear hw ht hn)
  go_ret
  exact ⟨A2, c2, rfl, HW.out, HT.out, HN.out⟩

theorem wU3 (g : Nat) (A : Option Addr) (c b n : Nat) (s : WS) (w : World) (H : Wr w g A c b n s) (v : Int) (h0 : 0 ≤ v) (h1 : v < 18446744073709551616) :
    Calls Try.prog 77 #[.pointer (some ⟨g, 0, none⟩), .int .u64 v] w (Wrote w g A b n (s.put v 3).2 (s.put v 3).1) := by
  have HH := Lib.hid H
  clear H
  go_enter Try.func77, Try.ntmps77
  go_wp2_with (go_at_call 72; refine (wnumber _ _ _ _ _ _ _ HH.out v h0 h1 3 (by omega) (by omega)).mono ?_; rintro e w' ⟨A2, c2, rfl, hw, ht, hn⟩; have HW := Lib.hid hw; have HT := Lib.hid ht; have HN := Lib.hid hn; clear hw ht hn)
  go_ret
  exact ⟨A2, c2, rfl, HW.out, HT.out, HN.out⟩

theorem wU4 (g : Nat) (A : Option Addr) (c b n : Nat) (s : WS) (w : World) (H : Wr w g A c b n s) (v : Int) (h0 : 0 ≤ v) (h1 : v < 18446744073709551616) :
    Calls Try.prog 64 #[.pointer (some ⟨g, 0, none⟩), .int .u64 v] w (Wrote w g A b n (s.put v 4).2 (s.put v 4).1) := by
  have HH := Lib.hid H
  clear H
  go_enter Try.func64, Try.ntmps64
  go_wp2_with (go_at_call 72; refine (wnumber _ _ _ _ _ _ _ HH.out v h0 h1 4 (by omega) (by omega)).mono ?_; rintro e w' ⟨A2, c2, rfl, hw, ht, hn⟩; have HW := Lib.hid hw; have HT := Lib.hid ht; have HN := Lib.hid hn; clear hw ht hn)
  go_ret
  exact ⟨A2, c2, rfl, HW.out, HT.out, HN.out⟩

theorem wU6 (g : Nat) (A : Option Addr) (c b n : Nat) (s : WS) (w : World) (H : Wr w g A c b n s) (v : Int) (h0 : 0 ≤ v) (h1 : v < 18446744073709551616) :
    Calls Try.prog 52 #[.pointer (some ⟨g, 0, none⟩), .int .u64 v] w (Wrote w g A b n (s.put v 6).2 (s.put v 6).1) := by
  have HH := Lib.hid H
  clear H
  go_enter Try.func52, Try.ntmps52
  go_wp2_with (go_at_call 72; refine (wnumber _ _ _ _ _ _ _ HH.out v h0 h1 6 (by omega) (by omega)).mono ?_; rintro e w' ⟨A2, c2, rfl, hw, ht, hn⟩; have HW := Lib.hid hw; have HT := Lib.hid ht; have HN := Lib.hid hn; clear hw ht hn)
  go_ret
  exact ⟨A2, c2, rfl, HW.out, HT.out, HN.out⟩

theorem wU8 (g : Nat) (A : Option Addr) (c b n : Nat) (s : WS) (w : World) (H : Wr w g A c b n s) (v : Int) (h0 : 0 ≤ v) (h1 : v < 18446744073709551616) :
    Calls Try.prog 54 #[.pointer (some ⟨g, 0, none⟩), .int .u64 v] w (Wrote w g A b n (s.put v 8).2 (s.put v 8).1) := by
  have HH := Lib.hid H
  clear H
  go_enter Try.func54, Try.ntmps54
  go_wp2_with (go_at_call 72; refine (wnumber _ _ _ _ _ _ _ HH.out v h0 h1 8 (by omega) (by omega)).mono ?_; rintro e w' ⟨A2, c2, rfl, hw, ht, hn⟩; have HW := Lib.hid hw; have HT := Lib.hid ht; have HN := Lib.hid hn; clear hw ht hn)
  go_ret
  exact ⟨A2, c2, rfl, HW.out, HT.out, HN.out⟩

end Go.Proofs.Ytgdfpmnbofnjfaa
