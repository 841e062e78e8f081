/- Readers: each method, by the pure state of a reader. -/
import Derived.Test.YtgdfpmnbofnjfaaRdD
namespace Go.Proofs.Ytgdfpmnbofnjfaa
open Go.RowKit
set_option maxRecDepth 100000

/-- What a reader is: its bytes, the position of the first, its position, its fault. -/
structure RS where
  bs : List Int
  st : Nat
  p : Nat
  ef : Int
  ea : Int

/-- The bytes that are taken, and the reader behind it. -/
def RS.take (s : RS) (n : Int) : Option (List Int) × RS :=
  if s.ef ≠ 0 then (none, s)
  else if n < 0 ∨ ((s.st + s.bs.length - s.p : Nat) : Int) < n then (none, { s with ef := 4, ea := s.p })
  else (some ((s.bs.drop (s.p - s.st)).take n.toNat), { s with p := s.p + n.toNat })

abbrev RdS (w : World) (g h cap : Nat) (s : RS) : Prop := Rd w g h cap s.bs s.st s.p s.ef s.ea

/-- A new reader of the bytes that were taken. -/
def RS.sub (s : RS) (n : Int) : RS := { bs := (s.take n).1.getD [], st := s.p, p := s.p, ef := (s.take n).2.ef, ea := (s.take n).2.ea }

def RS.fail (s : RS) (x : Int) : RS := if x ≠ 0 ∧ s.ef = 0 then { s with ef := x, ea := s.p } else s

def RS.got (s : RS) (m : Nat) : Int := ((s.take m).1.map num).getD 0

theorem take_a {s : RS} (n : Int) (h : s.ef ≠ 0) : s.take n = (none, s) := by simp [RS.take, h]
theorem take_b {s : RS} (n : Int) (h : s.ef = 0) (hn : n < 0 ∨ ((s.st + s.bs.length - s.p : Nat) : Int) < n) : s.take n = (none, { s with ef := 4, ea := s.p }) := by
  unfold RS.take
  rw [if_neg (by simp [h]), if_pos hn]
theorem take_c {s : RS} (n : Nat) (h : s.ef = 0) (hn : n ≤ s.st + s.bs.length - s.p) : s.take n = (some ((s.bs.drop (s.p - s.st)).take n), { s with p := s.p + n }) := by
  unfold RS.take
  rw [if_neg (by simp [h]), if_neg (by omega)]
  rfl

theorem three (s : RS) (n : Int) : s.ef ≠ 0 ∨ (s.ef = 0 ∧ (n < 0 ∨ ((s.st + s.bs.length - s.p : Nat) : Int) < n)) ∨ (s.ef = 0 ∧ ∃ m : Nat, n = m ∧ m ≤ s.st + s.bs.length - s.p) := by
  by_cases h : s.ef = 0
  · by_cases h1 : n < 0 ∨ ((s.st + s.bs.length - s.p : Nat) : Int) < n
    · exact .inr (.inl ⟨h, h1⟩)
    · exact .inr (.inr ⟨h, n.toNat, by omega, by omega⟩)
  · exact .inl h

theorem rd0 {w : World} {g h cap : Nat} {s : RS} (H : RdS w g h cap s) (h0 : s.ef = 0) : Rd w g h cap s.bs s.st s.p 0 s.ea := by
  have h1 : Rd w g h cap s.bs s.st s.p s.ef s.ea := H
  rw [h0] at h1
  exact h1

theorem part_len {w : World} {g h cap : Nat} {s : RS} (H : RdS w g h cap s) {n : Nat} (hn : n ≤ s.st + s.bs.length - s.p) : ((s.bs.drop (s.p - s.st)).take n).length = n := by
  have h1 := H.lo
  have h2 := H.hi
  simp
  omega
theorem part_byte {w : World} {g h cap : Nat} {s : RS} (H : RdS w g h cap s) (k n : Nat) : ∀ v ∈ (s.bs.drop k).take n, 0 ≤ v ∧ v ≤ 255 :=
  fun v hv => H.byte v (List.mem_of_mem_drop (List.mem_of_mem_take hv))

theorem rnew (ad : Addr) (n c : Nat) (xs : List Int) (hl : xs.length = n) (hm : n ≤ 1000000) (w : World) (hc : Cel w ad xs) (hx : ∀ v ∈ xs, 0 ≤ v ∧ v ≤ 255) :
    Calls Try.prog 43 #[.slice (some ad) n c] w fun e w' => ∃ g' h' c', e = .returned (.pointer (some ⟨g', 0, none⟩)) ∧ w.heap.size ≤ g' ∧ w.heap.size ≤ h' ∧ RdS w' g' h' c' ⟨xs, 0, 0, 0, 0⟩ ∧ Below w.heap.size w w' := by
  have HL := Lib.hid hl
  have HX := Lib.hid hx
  have HC := Lib.hid hc
  clear hl hx hc
  go_enter Try.func43, Try.ntmps43
  go_wp2_with (go_at_call 68; refine (rreader _ _ _ 0 xs HL.out (by omega) _ HC.out HX.out).mono ?_; rintro e w' ⟨g', h', c', rfl, h1, h2, h3, h4⟩)
  have H3 := Lib.hid h3
  clear h3
  go_wp2
  go_ret
  exact ⟨g', h', c', rfl, h1, h2, H3.out, h4⟩

theorem rnew_nil (w : World) :
    Calls Try.prog 43 #[.slice none 0 0] w fun e w' => ∃ g' h' c', e = .returned (.pointer (some ⟨g', 0, none⟩)) ∧ w.heap.size ≤ g' ∧ w.heap.size ≤ h' ∧ RdS w' g' h' c' ⟨[], 0, 0, 0, 0⟩ ∧ Below w.heap.size w w' := by
  go_enter Try.func43, Try.ntmps43
  go_wp2_with (go_at_call 68; refine (rreader_nil 0 (by omega) _).mono ?_; rintro e w' ⟨g', h', c', rfl, h1, h2, h3, h4⟩)
  have H3 := Lib.hid h3
  clear h3
  go_wp2
  go_ret
  exact ⟨g', h', c', rfl, h1, h2, H3.out, h4⟩

theorem rU1 (g h cap : Nat) (s : RS) (w : World) (H : RdS w g h cap s) :
    Calls Try.prog 45 #[.pointer (some ⟨g, 0, none⟩)] w fun e w' => e = .returned (.int .u64 (s.got 1)) ∧ RdS w' g h cap (s.take 1).2 ∧ Only w g w' := by
  have HH : Hid (RdS w g h cap s) := Lib.hid H
  clear H
  rcases three s 1 with h0 | ⟨h0, h1⟩ | ⟨h0, m, hm, h1⟩
  · have e1 : Hid (s.got 1 = 0) := Lib.hid (by unfold RS.got; rw [show (((1 : Nat) : Int)) = 1 from rfl, take_a 1 h0]; rfl)
    have e2 : Hid ((s.take 1).2 = s) := Lib.hid (by rw [take_a 1 h0])
    have h0' : (s.ef != 0) = true := by simpa using h0
    have H0 := Lib.hid h0'
    clear h0 h0'
    go_enter Try.func45, Try.ntmps45
    go_wp2_with (first
      | (go_at_call 70; refine (rtake_fault _ _ _ _ _ _ _ _ _ HH.out 1 H0.out).mono ?_; rintro e w' ⟨rfl, h2⟩)
      | (go_at_call 71; refine (rget_nil _).mono ?_; rintro e w' ⟨rfl, rfl⟩))
    go_ret
    exact ⟨by rw [e1.out]; rfl, by rw [e2.out]; exact HH.out.below h2, only_below h2 g⟩
  · have e1 : Hid (s.got 1 = 0) := Lib.hid (by unfold RS.got; rw [show (((1 : Nat) : Int)) = 1 from rfl, take_b 1 h0 h1]; rfl)
    have e2 : Hid ((s.take 1).2 = { s with ef := 4, ea := s.p }) := Lib.hid (by rw [take_b 1 h0 h1])
    have HR := Lib.hid (rd0 HH.out h0)
    have H1 := Lib.hid h1
    clear h0 h1
    go_enter Try.func45, Try.ntmps45
    go_wp2_with (first
      | (go_at_call 70; refine (rtake_short _ _ _ _ _ _ _ _ HR.out 1 H1.out).mono ?_; rintro e w' ⟨rfl, h2, h3⟩; have H2 := Lib.hid h2; clear h2)
      | (go_at_call 71; refine (rget_nil _).mono ?_; rintro e w' ⟨rfl, rfl⟩))
    go_ret
    exact ⟨by rw [e1.out]; rfl, by rw [e2.out]; exact H2.out, h3⟩
  · obtain rfl : m = 1 := by omega
    have e1 : Hid (s.got 1 = num ((s.bs.drop (s.p - s.st)).take 1)) := Lib.hid (by unfold RS.got; rw [take_c 1 h0 h1]; rfl)
    have e2 : Hid ((s.take 1).2 = { s with p := s.p + 1 }) := Lib.hid (by rw [show (1 : Int) = ((1 : Nat) : Int) from rfl, take_c 1 h0 h1])
    have HR := Lib.hid (rd0 HH.out h0)
    have HL := Lib.hid (part_len HH.out h1)
    have HB := Lib.hid (part_byte HH.out (s.p - s.st) 1)
    have H1 := Lib.hid h1
    have H0 := Lib.hid h0
    clear h0 h1 hm
    go_enter Try.func45, Try.ntmps45
    go_wp2_with (first
      | (go_at_call 70; refine (rtake_ok _ _ _ _ _ _ _ _ HR.out 1 H1.out).mono ?_; rintro e w' ⟨⟨o, ⟨c, rfl⟩, hsl⟩, h2, h3⟩; have H2 := Lib.hid h2; clear h2; have HS := Lib.hid hsl; clear hsl)
      | (go_at_call 71; refine (rget _ _ _ _ _ HL.out _ (by omega) HB.out HS.out).mono ?_; rintro e w' ⟨rfl, rfl⟩))
    go_ret
    exact ⟨by rw [e1.out]; rfl, by rw [e2.out]; show Rd _ g h cap s.bs s.st (s.p + 1) s.ef s.ea; rw [H0.out]; exact H2.out, h3⟩

theorem rU2 (g h cap : Nat) (s : RS) (w : World) (H : RdS w g h cap s) :
    Calls Try.prog 46 #[.pointer (some ⟨g, 0, none⟩)] w fun e w' => e = .returned (.int .u64 (s.got 2)) ∧ RdS w' g h cap (s.take 2).2 ∧ Only w g w' := by
  have HH : Hid (RdS w g h cap s) := Lib.hid H
  clear H
  rcases three s 2 with h0 | ⟨h0, h1⟩ | ⟨h0, m, hm, h1⟩
  · have e1 : Hid (s.got 2 = 0) := Lib.hid (by unfold RS.got; rw [show (((2 : Nat) : Int)) = 2 from rfl, take_a 2 h0]; rfl)
    have e2 : Hid ((s.take 2).2 = s) := Lib.hid (by rw [take_a 2 h0])
    have h0' : (s.ef != 0) = true := by simpa using h0
    have H0 := Lib.hid h0'
    clear h0 h0'
    go_enter Try.func46, Try.ntmps46
    go_wp2_with (first
      | (go_at_call 70; refine (rtake_fault _ _ _ _ _ _ _ _ _ HH.out 2 H0.out).mono ?_; rintro e w' ⟨rfl, h2⟩)
      | (go_at_call 71; refine (rget_nil _).mono ?_; rintro e w' ⟨rfl, rfl⟩))
    go_ret
    exact ⟨by rw [e1.out]; rfl, by rw [e2.out]; exact HH.out.below h2, only_below h2 g⟩
  · have e1 : Hid (s.got 2 = 0) := Lib.hid (by unfold RS.got; rw [show (((2 : Nat) : Int)) = 2 from rfl, take_b 2 h0 h1]; rfl)
    have e2 : Hid ((s.take 2).2 = { s with ef := 4, ea := s.p }) := Lib.hid (by rw [take_b 2 h0 h1])
    have HR := Lib.hid (rd0 HH.out h0)
    have H1 := Lib.hid h1
    clear h0 h1
    go_enter Try.func46, Try.ntmps46
    go_wp2_with (first
      | (go_at_call 70; refine (rtake_short _ _ _ _ _ _ _ _ HR.out 2 H1.out).mono ?_; rintro e w' ⟨rfl, h2, h3⟩; have H2 := Lib.hid h2; clear h2)
      | (go_at_call 71; refine (rget_nil _).mono ?_; rintro e w' ⟨rfl, rfl⟩))
    go_ret
    exact ⟨by rw [e1.out]; rfl, by rw [e2.out]; exact H2.out, h3⟩
  · obtain rfl : m = 2 := by omega
    have e1 : Hid (s.got 2 = num ((s.bs.drop (s.p - s.st)).take 2)) := Lib.hid (by unfold RS.got; rw [take_c 2 h0 h1]; rfl)
    have e2 : Hid ((s.take 2).2 = { s with p := s.p + 2 }) := Lib.hid (by rw [show (2 : Int) = ((2 : Nat) : Int) from rfl, take_c 2 h0 h1])
    have HR := Lib.hid (rd0 HH.out h0)
    have HL := Lib.hid (part_len HH.out h1)
    have HB := Lib.hid (part_byte HH.out (s.p - s.st) 2)
    have H1 := Lib.hid h1
    have H0 := Lib.hid h0
    clear h0 h1 hm
    go_enter Try.func46, Try.ntmps46
    go_wp2_with (first
      | (go_at_call 70; refine (rtake_ok _ _ _ _ _ _ _ _ HR.out 2 H1.out).mono ?_; rintro e w' ⟨⟨o, ⟨c, rfl⟩, hsl⟩, h2, h3⟩; have H2 := Lib.hid h2; clear h2; have HS := Lib.hid hsl; clear hsl)
      | (go_at_call 71; refine (rget _ _ _ _ _ HL.out _ (by omega) HB.out HS.out).mono ?_; rintro e w' ⟨rfl, rfl⟩))
    go_ret
    exact ⟨by rw [e1.out]; rfl, by rw [e2.out]; show Rd _ g h cap s.bs s.st (s.p + 2) s.ef s.ea; rw [H0.out]; exact H2.out, h3⟩

theorem rU3 (g h cap : Nat) (s : RS) (w : World) (H : RdS w g h cap s) :
    Calls Try.prog 49 #[.pointer (some ⟨g, 0, none⟩)] w fun e w' => e = .returned (.int .u64 (s.got 3)) ∧ RdS w' g h cap (s.take 3).2 ∧ Only w g w' := by
  have HH : Hid (RdS w g h cap s) := Lib.hid H
  clear H
  rcases three s 3 with h0 | ⟨h0, h1⟩ | ⟨h0, m, hm, h1⟩
  · have e1 : Hid (s.got 3 = 0) := Lib.hid (by unfold RS.got; rw [show (((3 : Nat) : Int)) = 3 from rfl, take_a 3 h0]; rfl)
    have e2 : Hid ((s.take 3).2 = s) := Lib.hid (by rw [take_a 3 h0])
    have h0' : (s.ef != 0) = true := by simpa using h0
    have H0 := Lib.hid h0'
    clear h0 h0'
    go_enter Try.func49, Try.ntmps49
    go_wp2_with (first
      | (go_at_call 70; refine (rtake_fault _ _ _ _ _ _ _ _ _ HH.out 3 H0.out).mono ?_; rintro e w' ⟨rfl, h2⟩)
      | (go_at_call 71; refine (rget_nil _).mono ?_; rintro e w' ⟨rfl, rfl⟩))
    go_ret
    exact ⟨by rw [e1.out]; rfl, by rw [e2.out]; exact HH.out.below h2, only_below h2 g⟩
  · have e1 : Hid (s.got 3 = 0) := Lib.hid (by unfold RS.got; rw [show (((3 : Nat) : Int)) = 3 from rfl, take_b 3 h0 h1]; rfl)
    have e2 : Hid ((s.take 3).2 = { s with ef := 4, ea := s.p }) := Lib.hid (by rw [take_b 3 h0 h1])
    have HR := Lib.hid (rd0 HH.out h0)
    have H1 := Lib.hid h1
    clear h0 h1
    go_enter Try.func49, Try.ntmps49
    go_wp2_with (first
      | (go_at_call 70; refine (rtake_short _ _ _ _ _ _ _ _ HR.out 3 H1.out).mono ?_; rintro e w' ⟨rfl, h2, h3⟩; have H2 := Lib.hid h2; clear h2)
      | (go_at_call 71; refine (rget_nil _).mono ?_; rintro e w' ⟨rfl, rfl⟩))
    go_ret
    exact ⟨by rw [e1.out]; rfl, by rw [e2.out]; exact H2.out, h3⟩
  · obtain rfl : m = 3 := by omega
    have e1 : Hid (s.got 3 = num ((s.bs.drop (s.p - s.st)).take 3)) := Lib.hid (by unfold RS.got; rw [take_c 3 h0 h1]; rfl)
    have e2 : Hid ((s.take 3).2 = { s with p := s.p + 3 }) := Lib.hid (by rw [show (3 : Int) = ((3 : Nat) : Int) from rfl, take_c 3 h0 h1])
    have HR := Lib.hid (rd0 HH.out h0)
    have HL := Lib.hid (part_len HH.out h1)
    have HB := Lib.hid (part_byte HH.out (s.p - s.st) 3)
    have H1 := Lib.hid h1
    have H0 := Lib.hid h0
    clear h0 h1 hm
    go_enter Try.func49, Try.ntmps49
    go_wp2_with (first
      | (go_at_call 70; refine (rtake_ok _ _ _ _ _ _ _ _ HR.out 3 H1.out).mono ?_; rintro e w' ⟨⟨o, ⟨c, rfl⟩, hsl⟩, h2, h3⟩; have H2 := Lib.hid h2; clear h2; have HS := Lib.hid hsl; clear hsl)
      | (go_at_call 71; refine (rget _ _ _ _ _ HL.out _ (by omega) HB.out HS.out).mono ?_; rintro e w' ⟨rfl, rfl⟩))
    go_ret
    exact ⟨by rw [e1.out]; rfl, by rw [e2.out]; show Rd _ g h cap s.bs s.st (s.p + 3) s.ef s.ea; rw [H0.out]; exact H2.out, h3⟩

theorem rU4 (g h cap : Nat) (s : RS) (w : World) (H : RdS w g h cap s) :
    Calls Try.prog 47 #[.pointer (some ⟨g, 0, none⟩)] w fun e w' => e = .returned (.int .u64 (s.got 4)) ∧ RdS w' g h cap (s.take 4).2 ∧ Only w g w' := by
  have HH : Hid (RdS w g h cap s) := Lib.hid H
  clear H
  rcases three s 4 with h0 | ⟨h0, h1⟩ | ⟨h0, m, hm, h1⟩
  · have e1 : Hid (s.got 4 = 0) := Lib.hid (by unfold RS.got; rw [show (((4 : Nat) : Int)) = 4 from rfl, take_a 4 h0]; rfl)
    have e2 : Hid ((s.take 4).2 = s) := Lib.hid (by rw [take_a 4 h0])
    have h0' : (s.ef != 0) = true := by simpa using h0
    have H0 := Lib.hid h0'
    clear h0 h0'
    go_enter Try.func47, Try.ntmps47
    go_wp2_with (first
      | (go_at_call 70; refine (rtake_fault _ _ _ _ _ _ _ _ _ HH.out 4 H0.out).mono ?_; rintro e w' ⟨rfl, h2⟩)
      | (go_at_call 71; refine (rget_nil _).mono ?_; rintro e w' ⟨rfl, rfl⟩))
    go_ret
    exact ⟨by rw [e1.out]; rfl, by rw [e2.out]; exact HH.out.below h2, only_below h2 g⟩
  · have e1 : Hid (s.got 4 = 0) := Lib.hid (by unfold RS.got; rw [show (((4 : Nat) : Int)) = 4 from rfl, take_b 4 h0 h1]; rfl)
    have e2 : Hid ((s.take 4).2 = { s with ef := 4, ea := s.p }) := Lib.hid (by rw [take_b 4 h0 h1])
    have HR := Lib.hid (rd0 HH.out h0)
    have H1 := Lib.hid h1
    clear h0 h1
    go_enter Try.func47, Try.ntmps47
    go_wp2_with (first
      | (go_at_call 70; refine (rtake_short _ _ _ _ _ _ _ _ HR.out 4 H1.out).mono ?_; rintro e w' ⟨rfl, h2, h3⟩; have H2 := Lib.hid h2; clear h2)
      | (go_at_call 71; refine (rget_nil _).mono ?_; rintro e w' ⟨rfl, rfl⟩))
    go_ret
    exact ⟨by rw [e1.out]; rfl, by rw [e2.out]; exact H2.out, h3⟩
  · obtain rfl : m = 4 := by omega
    have e1 : Hid (s.got 4 = num ((s.bs.drop (s.p - s.st)).take 4)) := Lib.hid (by unfold RS.got; rw [take_c 4 h0 h1]; rfl)
    have e2 : Hid ((s.take 4).2 = { s with p := s.p + 4 }) := Lib.hid (by rw [show (4 : Int) = ((4 : Nat) : Int) from rfl, take_c 4 h0 h1])
    have HR := Lib.hid (rd0 HH.out h0)
    have HL := Lib.hid (part_len HH.out h1)
    have HB := Lib.hid (part_byte HH.out (s.p - s.st) 4)
    have H1 := Lib.hid h1
    have H0 := Lib.hid h0
    clear h0 h1 hm
    go_enter Try.func47, Try.ntmps47
    go_wp2_with (first
      | (go_at_call 70; refine (rtake_ok _ _ _ _ _ _ _ _ HR.out 4 H1.out).mono ?_; rintro e w' ⟨⟨o, ⟨c, rfl⟩, hsl⟩, h2, h3⟩; have H2 := Lib.hid h2; clear h2; have HS := Lib.hid hsl; clear hsl)
      | (go_at_call 71; refine (rget _ _ _ _ _ HL.out _ (by omega) HB.out HS.out).mono ?_; rintro e w' ⟨rfl, rfl⟩))
    go_ret
    exact ⟨by rw [e1.out]; rfl, by rw [e2.out]; show Rd _ g h cap s.bs s.st (s.p + 4) s.ef s.ea; rw [H0.out]; exact H2.out, h3⟩

theorem rU6 (g h cap : Nat) (s : RS) (w : World) (H : RdS w g h cap s) :
    Calls Try.prog 48 #[.pointer (some ⟨g, 0, none⟩)] w fun e w' => e = .returned (.int .u64 (s.got 6)) ∧ RdS w' g h cap (s.take 6).2 ∧ Only w g w' := by
  have HH : Hid (RdS w g h cap s) := Lib.hid H
  clear H
  rcases three s 6 with h0 | ⟨h0, h1⟩ | ⟨h0, m, hm, h1⟩
  · have e1 : Hid (s.got 6 = 0) := Lib.hid (by unfold RS.got; rw [show (((6 : Nat) : Int)) = 6 from rfl, take_a 6 h0]; rfl)
    have e2 : Hid ((s.take 6).2 = s) := Lib.hid (by rw [take_a 6 h0])
    have h0' : (s.ef != 0) = true := by simpa using h0
    have H0 := Lib.hid h0'
    clear h0 h0'
    go_enter Try.func48, Try.ntmps48
    go_wp2_with (first
      | (go_at_call 70; refine (rtake_fault _ _ _ _ _ _ _ _ _ HH.out 6 H0.out).mono ?_; rintro e w' ⟨rfl, h2⟩)
      | (go_at_call 71; refine (rget_nil _).mono ?_; rintro e w' ⟨rfl, rfl⟩))
    go_ret
    exact ⟨by rw [e1.out]; rfl, by rw [e2.out]; exact HH.out.below h2, only_below h2 g⟩
  · have e1 : Hid (s.got 6 = 0) := Lib.hid (by unfold RS.got; rw [show (((6 : Nat) : Int)) = 6 from rfl, take_b 6 h0 h1]; rfl)
    have e2 : Hid ((s.take 6).2 = { s with ef := 4, ea := s.p }) := Lib.hid (by rw [take_b 6 h0 h1])
    have HR := Lib.hid (rd0 HH.out h0)
    have H1 := Lib.hid h1
    clear h0 h1
    go_enter Try.func48, Try.ntmps48
    go_wp2_with (first
      | (go_at_call 70; refine (rtake_short _ _ _ _ _ _ _ _ HR.out 6 H1.out).mono ?_; rintro e w' ⟨rfl, h2, h3⟩; have H2 := Lib.hid h2; clear h2)
      | (go_at_call 71; refine (rget_nil _).mono ?_; rintro e w' ⟨rfl, rfl⟩))
    go_ret
    exact ⟨by rw [e1.out]; rfl, by rw [e2.out]; exact H2.out, h3⟩
  · obtain rfl : m = 6 := by omega
    have e1 : Hid (s.got 6 = num ((s.bs.drop (s.p - s.st)).take 6)) := Lib.hid (by unfold RS.got; rw [take_c 6 h0 h1]; rfl)
    have e2 : Hid ((s.take 6).2 = { s with p := s.p + 6 }) := Lib.hid (by rw [show (6 : Int) = ((6 : Nat) : Int) from rfl, take_c 6 h0 h1])
    have HR := Lib.hid (rd0 HH.out h0)
    have HL := Lib.hid (part_len HH.out h1)
    have HB := Lib.hid (part_byte HH.out (s.p - s.st) 6)
    have H1 := Lib.hid h1
    have H0 := Lib.hid h0
    clear h0 h1 hm
    go_enter Try.func48, Try.ntmps48
    go_wp2_with (first
      | (go_at_call 70; refine (rtake_ok _ _ _ _ _ _ _ _ HR.out 6 H1.out).mono ?_; rintro e w' ⟨⟨o, ⟨c, rfl⟩, hsl⟩, h2, h3⟩; have H2 := Lib.hid h2; clear h2; have HS := Lib.hid hsl; clear hsl)
      | (go_at_call 71; refine (rget _ _ _ _ _ HL.out _ (by omega) HB.out HS.out).mono ?_; rintro e w' ⟨rfl, rfl⟩))
    go_ret
    exact ⟨by rw [e1.out]; rfl, by rw [e2.out]; show Rd _ g h cap s.bs s.st (s.p + 6) s.ef s.ea; rw [H0.out]; exact H2.out, h3⟩

theorem rU8 (g h cap : Nat) (s : RS) (w : World) (H : RdS w g h cap s) :
    Calls Try.prog 91 #[.pointer (some ⟨g, 0, none⟩)] w fun e w' => e = .returned (.int .u64 (s.got 8)) ∧ RdS w' g h cap (s.take 8).2 ∧ Only w g w' := by
  have HH : Hid (RdS w g h cap s) := Lib.hid H
  clear H
  rcases three s 8 with h0 | ⟨h0, h1⟩ | ⟨h0, m, hm, h1⟩
  · have e1 : Hid (s.got 8 = 0) := Lib.hid (by unfold RS.got; rw [show (((8 : Nat) : Int)) = 8 from rfl, take_a 8 h0]; rfl)
    have e2 : Hid ((s.take 8).2 = s) := Lib.hid (by rw [take_a 8 h0])
    have h0' : (s.ef != 0) = true := by simpa using h0
    have H0 := Lib.hid h0'
    clear h0 h0'
    go_enter Try.func91, Try.ntmps91
    go_wp2_with (first
      | (go_at_call 70; refine (rtake_fault _ _ _ _ _ _ _ _ _ HH.out 8 H0.out).mono ?_; rintro e w' ⟨rfl, h2⟩)
      | (go_at_call 71; refine (rget_nil _).mono ?_; rintro e w' ⟨rfl, rfl⟩))
    go_ret
    exact ⟨by rw [e1.out]; rfl, by rw [e2.out]; exact HH.out.below h2, only_below h2 g⟩
  · have e1 : Hid (s.got 8 = 0) := Lib.hid (by unfold RS.got; rw [show (((8 : Nat) : Int)) = 8 from rfl, take_b 8 h0 h1]; rfl)
    have e2 : Hid ((s.take 8).2 = { s with ef := 4, ea := s.p }) := Lib.hid (by rw [take_b 8 h0 h1])
    have HR := Lib.hid (rd0 HH.out h0)
    have H1 := Lib.hid h1
    clear h0 h1
    go_enter Try.func91, Try.ntmps91
    go_wp2_with (first
      | (go_at_call 70; refine (rtake_short _ _ _ _ _ _ _ _ HR.out 8 H1.out).mono ?_; rintro e w' ⟨rfl, h2, h3⟩; have H2 := Lib.hid h2; clear h2)
      | (go_at_call 71; refine (rget_nil _).mono ?_; rintro e w' ⟨rfl, rfl⟩))
    go_ret
    exact ⟨by rw [e1.out]; rfl, by rw [e2.out]; exact H2.out, h3⟩
  · obtain rfl : m = 8 := by omega
    have e1 : Hid (s.got 8 = num ((s.bs.drop (s.p - s.st)).take 8)) := Lib.hid (by unfold RS.got; rw [take_c 8 h0 h1]; rfl)
    have e2 : Hid ((s.take 8).2 = { s with p := s.p + 8 }) := Lib.hid (by rw [show (8 : Int) = ((8 : Nat) : Int) from rfl, take_c 8 h0 h1])
    have HR := Lib.hid (rd0 HH.out h0)
    have HL := Lib.hid (part_len HH.out h1)
    have HB := Lib.hid (part_byte HH.out (s.p - s.st) 8)
    have H1 := Lib.hid h1
    have H0 := Lib.hid h0
    clear h0 h1 hm
    go_enter Try.func91, Try.ntmps91
    go_wp2_with (first
      | (go_at_call 70; refine (rtake_ok _ _ _ _ _ _ _ _ HR.out 8 H1.out).mono ?_; rintro e w' ⟨⟨o, ⟨c, rfl⟩, hsl⟩, h2, h3⟩; have H2 := Lib.hid h2; clear h2; have HS := Lib.hid hsl; clear hsl)
      | (go_at_call 71; refine (rget _ _ _ _ _ HL.out _ (by omega) HB.out HS.out).mono ?_; rintro e w' ⟨rfl, rfl⟩))
    go_ret
    exact ⟨by rw [e1.out]; rfl, by rw [e2.out]; show Rd _ g h cap s.bs s.st (s.p + 8) s.ef s.ea; rw [H0.out]; exact H2.out, h3⟩

end Go.Proofs.Ytgdfpmnbofnjfaa
