/- Graphs: New: a graph, or the error. -/
import Derived.Test.YtfmjcjkifjndgaaToM
namespace Go.Proofs.Ytfmjcjkifjndgaa
open Go.RowKit
set_option linter.unusedVariables false
set_option linter.unusedSimpArgs false
set_option maxRecDepth 100000

def gs0 (N : Nat) (L : List LK) : GS := ⟨N, L, fstF N, fstF L.length⟩
theorem fnz_mem {l : List Int} (h : fnz l = 0) : ∀ r ∈ l, r = 0 := by
  induction l with
  | nil => simp
  | cons x l ih =>
    unfold fnz at h
    by_cases hx : x = 0
    · rw [if_neg (by simp [hx])] at h
      intro r hr
      rcases List.mem_cons.1 hr with rfl | hr
      · exact hx
      · exact ih h r hr
    · rw [if_pos hx] at h; exact absurd h hx
theorem valE_ok {N : Int} {L : List LK} (h : valE N L = 0) : (1 ≤ N ∧ N ≤ 32) ∧ L.length ≤ 128 ∧ ∀ x ∈ L, x.fine N.toNat := by
  unfold valE at h
  by_cases h1 : 1 ≤ N ∧ N ≤ 32
  · rw [if_neg (fun h9 => h9 h1)] at h
    by_cases h2 : 128 < L.length
    · rw [if_pos h2] at h; exact absurd h (by decide)
    · rw [if_neg h2] at h
      refine ⟨h1, by omega, fun x hx => ?_⟩
      have hm := fnz_mem h
      have ha := hm (eR N x) (by unfold lkE; exact List.mem_flatMap.2 ⟨x, hx, by simp⟩)
      have hb := hm (eL x) (by unfold lkE; exact List.mem_flatMap.2 ⟨x, hx, by simp⟩)
      unfold eR at ha
      unfold eL at hb
      by_cases h3 : inN N x.a = true ∧ inN N x.b = true ∧ 1 ≤ x.c ∧ x.c ≤ 1000
      · by_cases h4 : x.a ≠ x.b
        · obtain ⟨p, q, r, t⟩ := h3
          unfold inN at p q
          simp at p q
          exact ⟨p.1, by omega, q.1, by omega, r, t, h4⟩
        · rw [if_neg h4] at hb; exact absurd hb (by decide)
      · rw [if_neg h3] at ha; exact absurd ha (by decide)
  · rw [if_pos h1] at h; exact absurd h (by decide)
theorem gs0_ok {N : Nat} {L : List LK} (h : valE (N : Int) L = 0) : (gs0 N L).ok := by
  obtain ⟨h1, h2, h3⟩ := valE_ok h
  refine ⟨by show 1 ≤ N; omega, by show N ≤ 32; omega, h2, fun x hx => by show x.fine N; simpa using h3 x hx, fun n hn => by simpa [gs0, fstF] using hn, fun i hi => by simpa [gs0, fstF] using hi⟩

/-- What New leaves where there is a graph. -/
def NewTo (w : World) (s : GS) (e : Ending) (w' : World) : Prop := ∃ g b, e = .returned (.tuple #[.pointer (some ⟨g, 0, none⟩), .int .i64 0]) ∧ Gr w' g b s ∧ w.heap.size ≤ g ∧ w.heap.size ≤ b ∧ Below w.heap.size w w'

theorem new_no (N : Int) (A : Option Addr) (n c : Nat) (L : List LK) (w : World) (H : Lks w A n c L) (hv : valE N L ≠ 0) :
    Calls Try.prog 12 #[.int .i64 N, .slice A n c] w fun e w' => e = .returned (.tuple #[.pointer none, .int .i64 (valE N L)]) ∧ Below w.heap.size w w' := by
  have HH := Lib.hid H
  obtain ⟨r, hr⟩ : ∃ r, valE N L = r := ⟨_, rfl⟩
  rw [hr] at hv ⊢
  have hb : (r != 0) = true := by simp [hv]
  have HR := Lib.hid hr
  clear H hv hr
  go_enter Try.func12, Try.ntmps12
  go_wp2_with (first
    | (go_at_call 42; refine (checks_any _ _ _ _ _ _ HH.out).mono ?_; rintro e w1 ⟨g, c1, m, vs, rfl, h1, h2, h3, h4, h5, h6⟩; have H1 := Lib.hid h1; have H4 := Lib.hid h4; have H5 := Lib.hid h5; have H6 := Lib.hid h6; clear h1 h4 h5 h6)
    | (go_at_call 41; refine (first_any g c1 vs _ m H1.out (by rw [← H5.out.1]; exact H1.out) h2 (by omega) w1 H4.out H5.out.2).mono ?_; rintro e w' ⟨rfl, rfl⟩; rw [ck_val, HR.out]))
  go_ret2
  exact ⟨rfl, H6.out⟩

set_option maxHeartbeats 2000000 in
theorem new_yes (N : Nat) (A : Option Addr) (n c : Nat) (L : List LK) (w : World) (H : Lks w A n c L) (hv : valE (N : Int) L = 0) :
    Calls Try.prog 12 #[.int .i64 (N : Int), .slice A n c] w (NewTo w (gs0 N L)) := by
  have HH := Lib.hid H
  have HOK := Lib.hid (gs0_ok hv)
  have hl1 := (valE_ok hv).2.1
  have hl2 := H.len
  have hn1 : n ≤ 128 := by omega
  have hN1 : N ≤ 128 := by have := (valE_ok hv).1; omega
  have HV := Lib.hid hv
  have HL2 := Lib.hid hl2
  clear H hv hl1 hl2
  go_enter Try.func12, Try.ntmps12
  go_wp2_with (first
    | (go_at_call 42; refine (checks_any _ _ _ _ _ _ HH.out).mono ?_; rintro e w1 ⟨g, c1, m, vs, rfl, h1, h2, h3, h4, h5, h6⟩; have H1 := Lib.hid h1; have H4 := Lib.hid h4; have H5 := Lib.hid h5; have H6 := Lib.hid h6; clear h1 h4 h5 h6)
    | (go_at_call 41; refine (first_any g c1 vs _ m H1.out (by rw [← H5.out.1]; exact H1.out) h2 (by omega) w1 H4.out H5.out.2).mono ?_; rintro e w' ⟨rfl, rfl⟩; rw [ck_val, HV.out])
    | (go_at_call 43; refine (clone_any _ _ _ _ _ (HH.out.below H6.out) (by omega)).mono ?_; rintro e w2 ⟨A2, c2, rfl, h7, h8⟩; have H7 := Lib.hid h7; have H8 := Lib.hid h8; clear h7 h8)
    | (go_at_call 44; have tok := H8; refine (full_any N hN1 w2).mono ?_; rintro e w3 ⟨⟨x0, x1, rfl, h9⟩, h10⟩; have H9 := Lib.hid h9; have H10 := Lib.hid h10; clear h9 h10; have H8' := H8; clear H8 tok)
    | (go_at_call 44; refine (full_any n hn1 w3).mono ?_; rintro e w4 ⟨⟨y0, y1, rfl, h11⟩, h12⟩; have H11 := Lib.hid h11; have H12 := Lib.hid h12; clear h11 h12))
  go_ret2
  have s1 := H6.out.size
  have s2 := H8'.out.size
  have s3 := H10.out.size
  have s4 := H12.out.size
  have hb4 : Below w1.heap.size w1 w4 := (H8'.out.trans (H10.out.mono s2)).trans (H12.out.mono (by omega))
  have hbA : Below w4.heap.size w4 (w4.alloc (.cells #[.int .i64 (N : Int), .slice A2 L.length c2, .int .u64 x0, .int .u64 x1, .int .u64 y0, .int .u64 y1] 50)) := (Below.refl _ _).alloc (Nat.le_refl _) _
  have row5 : w2.ownsRow 0 26 3 (.slice A2 L.length c2) L.length (flatL L) := H7.out.mono (Nat.zero_le _)
  have keepN : ∀ {X Y : World}, Below X.heap.size X Y → X.ownsRow 0 26 3 (.slice A2 L.length c2) L.length (flatL L) → Y.ownsRow 0 26 3 (.slice A2 L.length c2) L.length (flatL L) := fun {X Y} hb h => by
    have hg : X.grownBy Y none := ⟨hb.os, hb.tape, hb.output, hb.size, fun i hi _ => hb.block i hi⟩
    rcases h.2 with ⟨e, _⟩ | ⟨g, cap, cur, e, _⟩
    · exact h.kept hg (by injection e with e _ _; subst e; exact .inl rfl)
    · exact h.kept hg (by injection e with e _ _; subst e; exact .inr (by simp [Value.ownBlock]))
  have row6 := keepN hbA (keepN H12.out (keepN H10.out row5))
  have hbW : Below w.heap.size w (w4.alloc (.cells #[.int .i64 (N : Int), .slice A2 L.length c2, .int .u64 x0, .int .u64 x1, .int .u64 y0, .int .u64 y1] 50)) := (H6.out.trans (hb4.mono s1)).trans (hbA.mono (by omega))
  obtain ⟨A3, c3, e3, hA⟩ := own_form H7.out
  cases e3
  rcases hA with rfl | ⟨gb, hg1, hg2, rfl⟩
  · refine ⟨w4.heap.size, w4.heap.size, rfl, ⟨none, c2, x0, x1, y0, y1, Has.new _ _ _, row6, .inl rfl, H9.out, ?_, HOK.out, by simp⟩, by omega, by omega, hbW⟩
    rw [HL2.out] at H11
    exact H11.out
  · refine ⟨w4.heap.size, gb, rfl, ⟨_, c2, x0, x1, y0, y1, Has.new _ _ _, row6, .inr rfl, H9.out, ?_, HOK.out, by simp; omega⟩, by omega, by omega, hbW⟩
    rw [HL2.out] at H11
    exact H11.out

end Go.Proofs.Ytfmjcjkifjndgaa
