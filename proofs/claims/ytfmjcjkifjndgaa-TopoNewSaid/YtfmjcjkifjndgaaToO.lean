/- Graphs: the law's helpers: lists compared; links copied. -/
import Derived.Test.YtfmjcjkifjndgaaToN
namespace Go.Proofs.Ytfmjcjkifjndgaa
open Go.RowKit
set_option linter.unusedVariables false
set_option linter.unusedSimpArgs false
set_option maxRecDepth 100000

/-- A slice that reads as n elements of k cells. -/
structure Sq (w : World) (A : Option Addr) (n c k : Nat) (xs : List Value) : Prop where
  len : xs.length = n * k
  cap : n ≤ c
  cel : 0 < n → ∃ b o, A = some ⟨b, o, none⟩ ∧ b < w.heap.size ∧ ∀ (j : Nat) (v : Value), xs[j]? = some v → w.cell? ⟨b, o + j, none⟩ = some v
theorem Sq.below {w w' : World} {A : Option Addr} {n c k : Nat} {xs : List Value} (h : Sq w A n c k xs) (hb : Below w.heap.size w w') : Sq w' A n c k xs :=
  ⟨h.len, h.cap, fun h0 => by
    obtain ⟨b, o, e, hl, hc⟩ := h.cel h0
    exact ⟨b, o, e, Nat.lt_of_lt_of_le hl hb.size, fun j v hv => (hb.cell (p := ⟨b, o + j, none⟩) hl).trans (hc j v hv)⟩⟩
theorem Sq.own {w : World} {B n c k : Nat} {t : TypeId} {A : Option Addr} {xs : List Value} (h : w.ownsRow B t k (.slice A n c) n xs) : Sq w A n c k xs := by
  refine ⟨h.1, ?_, fun h0 => ?_⟩
  · rcases h.2 with ⟨e, h1⟩ | ⟨g, cap, cur, e, _, _, hc, _⟩
    · injection e with _ e1 e2; omega
    · cases e; exact hc
  · rcases h.2 with ⟨_, h1⟩ | ⟨g, cap, cur, e, _, hh, hc, _⟩
    · omega
    · cases e
      refine ⟨g, 0, rfl, Has.lt (show Has w g t cur from hh), fun j v hv => ?_⟩
      have := h.cells (g := g) rfl j v hv
      rw [add_plain] at this
      exact this
theorem Sq.block {w : World} {g : Nat} {t : TypeId} {xs : List Value} {n k : Nat} (h : Has w g t xs.toArray) (hl : xs.length = n * k) : Sq w (some ⟨g, 0, none⟩) n n k xs :=
  ⟨hl, Nat.le_refl _, fun _ => ⟨g, 0, rfl, h.lt, fun j v hv => by rw [Nat.zero_add, h.cell, ← Array.getElem?_toList]; exact hv⟩⟩

set_option maxHeartbeats 1000000 in
theorem same_int (A A2 : Option Addr) (n c c2 : Nat) (xs : List Int) (w : World) (h : Sq w A n c 1 (ints xs)) (h2 : Sq w A2 n c2 1 (ints xs)) (hm : n ≤ 1000000) :
    Calls Try.prog 33 #[.slice A n c, .slice A2 n c2] w fun e w' => e = .returned (.bool true) ∧ ∃ q, w' = w.drewN q := by
  have hlen : xs.length = n := by have := h.len; simpa [ints] using this
  by_cases h0 : n = 0
  · subst h0
    clear h h2 hlen
    go_enter Try.func33, Try.ntmps33
    go_wp2
    go_loop [5] (fun i => i = .int .i64 0) (fun i => 0)
    case atStart => rfl
    case round =>
      subst hrel
      go_wp2
      go_ret
      exact ⟨rfl, 0, rfl⟩
  · obtain ⟨b, o, rfl, _, hs⟩ := h.cel (by omega)
    obtain ⟨b2, o2, rfl, _, hs2⟩ := h2.cel (by omega)
    have HS := Lib.hid hs
    have HS2 := Lib.hid hs2
    have HL := Lib.hid hlen
    clear hs hs2 h h2 h0 hlen
    go_enter Try.func33, Try.ntmps33
    go_wp2
    go_loopw [5] (fun i wr => ∃ k q : Nat, k ≤ n ∧ i = .int .i64 k ∧ wr = w.drewN q) (fun i _ => n - (intOf i).toNat)
    case atStart => exact ⟨0, 0, Nat.zero_le _, rfl, rfl⟩
    case round =>
      obtain ⟨k, q, hk, rfl, rfl⟩ := hrel
      by_cases hlt : k < n
      · obtain ⟨x, hx⟩ : ∃ x, xs[k]? = some x := ⟨xs[k]'(by rw [HL.out]; exact hlt), by rw [List.getElem?_eq_getElem]⟩
        have hxv : (ints xs)[k]? = some (.int .i64 x) := by simp [ints, hx]
        have q1 : w.cell? ⟨b, o + k, none⟩ = some (.int .i64 x) := HS.out k _ hxv
        have q2 : w.cell? ⟨b2, o2 + k, none⟩ = some (.int .i64 x) := HS2.out k _ hxv
        have hbne : (x != x) = false := bne_self_eq_false x
        clear hx hxv
        go_wp2
        go_quiet (fail)
        go_wp2
        go_roundw
        case rel => exact ⟨k + 1, _, by omega, by go_num, rfl⟩
        case measure => simp [intOf]; omega
      · obtain rfl : k = n := by omega
        go_wp2
        go_ret
        exact ⟨rfl, _, rfl⟩

set_option maxHeartbeats 1000000 in
theorem same_bool (A A2 : Option Addr) (n c c2 : Nat) (xs : List Bool) (w : World) (h : Sq w A n c 1 (xs.map Value.bool)) (h2 : Sq w A2 n c2 1 (xs.map Value.bool)) (hm : n ≤ 1000000) :
    Calls Try.prog 34 #[.slice A n c, .slice A2 n c2] w fun e w' => e = .returned (.bool true) ∧ ∃ q, w' = w.drewN q := by
  have hlen : xs.length = n := by have := h.len; simpa using this
  by_cases h0 : n = 0
  · subst h0
    clear h h2 hlen
    go_enter Try.func34, Try.ntmps34
    go_wp2
    go_loop [5] (fun i => i = .int .i64 0) (fun i => 0)
    case atStart => rfl
    case round =>
      subst hrel
      go_wp2
      go_ret
      exact ⟨rfl, 0, rfl⟩
  · obtain ⟨b, o, rfl, _, hs⟩ := h.cel (by omega)
    obtain ⟨b2, o2, rfl, _, hs2⟩ := h2.cel (by omega)
    have HS := Lib.hid hs
    have HS2 := Lib.hid hs2
    have HL := Lib.hid hlen
    clear hs hs2 h h2 h0 hlen
    go_enter Try.func34, Try.ntmps34
    go_wp2
    go_loopw [5] (fun i wr => ∃ k q : Nat, k ≤ n ∧ i = .int .i64 k ∧ wr = w.drewN q) (fun i _ => n - (intOf i).toNat)
    case atStart => exact ⟨0, 0, Nat.zero_le _, rfl, rfl⟩
    case round =>
      obtain ⟨k, q, hk, rfl, rfl⟩ := hrel
      by_cases hlt : k < n
      · obtain ⟨x, hx⟩ : ∃ x, xs[k]? = some x := ⟨xs[k]'(by rw [HL.out]; exact hlt), by rw [List.getElem?_eq_getElem]⟩
        have hxv : (xs.map Value.bool)[k]? = some (.bool x) := by simp [hx]
        have q1 : w.cell? ⟨b, o + k, none⟩ = some (.bool x) := HS.out k _ hxv
        have q2 : w.cell? ⟨b2, o2 + k, none⟩ = some (.bool x) := HS2.out k _ hxv
        have hbne : (x != x) = false := bne_self_eq_false x
        clear hx hxv
        go_wp2
        go_quiet (fail)
        go_wp2
        go_roundw
        case rel => exact ⟨k + 1, _, by omega, by go_num, rfl⟩
        case measure => simp [intOf]; omega
      · obtain rfl : k = n := by omega
        go_wp2
        go_ret
        exact ⟨rfl, _, rfl⟩

theorem neq_edge (a b c : Int) (w : World) : (binOp .neq 74 (.agg #[.int .i64 a, .int .i64 b, .int .i64 c]) (.agg #[.int .i64 a, .int .i64 b, .int .i64 c])).run Try.prog w = .ok (.bool false) w := by
  simp [go_sem]
set_option maxHeartbeats 1000000 in
theorem same_edge (A A2 : Option Addr) (n c c2 : Nat) (xs : List ED) (w : World) (h : Sq w A n c 3 (flatE xs)) (h2 : Sq w A2 n c2 3 (flatE xs)) (hm : n ≤ 1000000) :
    Calls Try.prog 40 #[.slice A n c, .slice A2 n c2] w fun e w' => e = .returned (.bool true) ∧ ∃ q, w' = w.drewN q := by
  have hlen : xs.length = n := by have := h.len; rw [flatE_len] at this; omega
  by_cases h0 : n = 0
  · subst h0
    clear h h2 hlen
    go_enter Try.func40, Try.ntmps40
    go_wp2
    go_loop [5] (fun i => i = .int .i64 0) (fun i => 0)
    case atStart => rfl
    case round =>
      subst hrel
      go_wp2
      go_ret
      exact ⟨rfl, 0, rfl⟩
  · obtain ⟨b, o, rfl, _, hs⟩ := h.cel (by omega)
    obtain ⟨b2, o2, rfl, _, hs2⟩ := h2.cel (by omega)
    have hc1 := h.cap
    have hc2 := h2.cap
    have HS := Lib.hid hs
    have HS2 := Lib.hid hs2
    have HL := Lib.hid hlen
    clear hs hs2 h h2 h0 hlen
    go_enter Try.func40, Try.ntmps40
    go_wp2
    go_loopw [5] (fun i wr => ∃ k q : Nat, k ≤ n ∧ i = .int .i64 k ∧ wr = w.drewN q) (fun i _ => n - (intOf i).toNat)
    case atStart => exact ⟨0, 0, Nat.zero_le _, rfl, rfl⟩
    case round =>
      obtain ⟨k, q, hk, rfl, rfl⟩ := hrel
      by_cases hlt : k < n
      · obtain ⟨x, hx⟩ : ∃ x, xs[k]? = some x := ⟨xs[k]'(by rw [HL.out]; exact hlt), by rw [List.getElem?_eq_getElem]⟩
        obtain ⟨v0, v1, v2⟩ := E_at xs k x hx
        obtain ⟨p0, p1, p2⟩ := x
        have q0 : w.cell? ⟨b, o + k * 3, none⟩ = some (.int .i64 p0) := HS.out _ _ v0
        have q1 : w.cell? ⟨b, o + k * 3 + 1, none⟩ = some (.int .i64 p1) := HS.out _ _ v1
        have q2 : w.cell? ⟨b, o + k * 3 + 2, none⟩ = some (.int .i64 p2) := HS.out _ _ v2
        have r0 : w.cell? ⟨b2, o2 + k * 3, none⟩ = some (.int .i64 p0) := HS2.out _ _ v0
        have r1 : w.cell? ⟨b2, o2 + k * 3 + 1, none⟩ = some (.int .i64 p1) := HS2.out _ _ v1
        have r2 : w.cell? ⟨b2, o2 + k * 3 + 2, none⟩ = some (.int .i64 p2) := HS2.out _ _ v2
        have hne := fun w => neq_edge p0 p1 p2 w
        clear hx v0 v1 v2
        go_wp2
        go_quiet (fail)
        go_wp2
        go_roundw
        case rel => exact ⟨k + 1, _, by omega, by go_num, rfl⟩
        case measure => simp [intOf]; omega
      · obtain rfl : k = n := by omega
        go_wp2
        go_ret
        exact ⟨rfl, _, rfl⟩

theorem neq_link (a b c : Int) (w : World) : (binOp .neq 26 (.agg #[.int .i64 a, .int .i64 b, .int .i64 c]) (.agg #[.int .i64 a, .int .i64 b, .int .i64 c])).run Try.prog w = .ok (.bool false) w := by
  simp [go_sem]
set_option maxHeartbeats 1000000 in
theorem same_link (A A2 : Option Addr) (n c c2 : Nat) (xs : List LK) (w : World) (h : Sq w A n c 3 (flatL xs)) (h2 : Sq w A2 n c2 3 (flatL xs)) (hm : n ≤ 1000000) :
    Calls Try.prog 14 #[.slice A n c, .slice A2 n c2] w fun e w' => e = .returned (.bool true) ∧ ∃ q, w' = w.drewN q := by
  have hlen : xs.length = n := by have := h.len; rw [flatL_len] at this; omega
  by_cases h0 : n = 0
  · subst h0
    clear h h2 hlen
    go_enter Try.func14, Try.ntmps14
    go_wp2
    go_loop [5] (fun i => i = .int .i64 0) (fun i => 0)
    case atStart => rfl
    case round =>
      subst hrel
      go_wp2
      go_ret
      exact ⟨rfl, 0, rfl⟩
  · obtain ⟨b, o, rfl, _, hs⟩ := h.cel (by omega)
    obtain ⟨b2, o2, rfl, _, hs2⟩ := h2.cel (by omega)
    have hc1 := h.cap
    have hc2 := h2.cap
    have HS := Lib.hid hs
    have HS2 := Lib.hid hs2
    have HL := Lib.hid hlen
    clear hs hs2 h h2 h0 hlen
    go_enter Try.func14, Try.ntmps14
    go_wp2
    go_loopw [5] (fun i wr => ∃ k q : Nat, k ≤ n ∧ i = .int .i64 k ∧ wr = w.drewN q) (fun i _ => n - (intOf i).toNat)
    case atStart => exact ⟨0, 0, Nat.zero_le _, rfl, rfl⟩
    case round =>
      obtain ⟨k, q, hk, rfl, rfl⟩ := hrel
      by_cases hlt : k < n
      · obtain ⟨x, hx⟩ : ∃ x, xs[k]? = some x := ⟨xs[k]'(by rw [HL.out]; exact hlt), by rw [List.getElem?_eq_getElem]⟩
        obtain ⟨v0, v1, v2⟩ := flatL_at xs k x hx
        obtain ⟨p0, p1, p2⟩ := x
        have q0 : w.cell? ⟨b, o + k * 3, none⟩ = some (.int .i64 p0) := HS.out _ _ v0
        have q1 : w.cell? ⟨b, o + k * 3 + 1, none⟩ = some (.int .i64 p1) := HS.out _ _ v1
        have q2 : w.cell? ⟨b, o + k * 3 + 2, none⟩ = some (.int .i64 p2) := HS.out _ _ v2
        have r0 : w.cell? ⟨b2, o2 + k * 3, none⟩ = some (.int .i64 p0) := HS2.out _ _ v0
        have r1 : w.cell? ⟨b2, o2 + k * 3 + 1, none⟩ = some (.int .i64 p1) := HS2.out _ _ v1
        have r2 : w.cell? ⟨b2, o2 + k * 3 + 2, none⟩ = some (.int .i64 p2) := HS2.out _ _ v2
        have hne := fun w => neq_link p0 p1 p2 w
        clear hx v0 v1 v2
        go_wp2
        go_quiet (fail)
        go_wp2
        go_roundw
        case rel => exact ⟨k + 1, _, by omega, by go_num, rfl⟩
        case measure => simp [intOf]; omega
      · obtain rfl : k = n := by omega
        go_wp2
        go_ret
        exact ⟨rfl, _, rfl⟩

theorem own_link (A : Option Addr) (n c : Nat) (L : List LK) (w : World) (H : Lks w A n c L) (hm : n ≤ 1000000) :
    Calls Try.prog 11 #[.slice A n c] w (Cloned w L) := by
  obtain ⟨i0, hi0, hz0, hz1, hz2⟩ := info_parts info_link
  have HLen := Lib.hid H.len
  have HE := Lib.hid (own_empty w 26 3)
  have hba : Below w.heap.size w (w.alloc (.cells #[] 26)) := (Below.refl _ w).alloc (Nat.le_refl _) _
  have HB := Lib.hid hba
  cases A with
  | none =>
    have h0 := H.nil rfl
    have hL : L = [] := List.eq_nil_of_length_eq_zero (by rw [← H.len]; exact h0)
    subst h0 hL
    clear H hba
    go_enter Try.func11, Try.ntmps11
    go_wp2
    go_ret
    exact ⟨_, 0, rfl, HE.out, HB.out⟩
  | some ad =>
    have HC := Lib.hid ((H.below hba).cel ad rfl)
    have HL : Hid ((flatL L).length = n * 3) := Lib.hid (by rw [flatL_len, H.len])
    have HO := flatL_one L
    clear H hba
    go_enter Try.func11, Try.ntmps11
    go_wp2_with (at_builtin; refine wpList_append_own _ rfl _ _ 22 rfl w.heap.size 26 i0 (.agg #[.int .i64 0, .int .i64 0, .int .i64 0]) 3 24 Try.underlying22 hi0 hz0 hz1 hz2 rfl (by decide) _ 0 [] rfl HE.out ad n c (flatL L) rfl HL.out HC.out HO (by unfold maxLen; omega) (by omega) (by simp) ?_)
    intro v' w1 hown hgrow hnil
    obtain ⟨A', c', rfl, _⟩ := own_form hown
    have HOwn := Lib.hid hown
    have HB1 : Hid (Below w.heap.size w w1) := Lib.hid (grown_below HB.out hgrow (by simp [Value.ownBlock]) (by simp))
    clear hown hgrow hnil HO
    go_wp2
    go_ret
    refine ⟨A', c', ?_, ?_, HB1.out⟩
    · rw [← HLen.out]; simp
    · have := HOwn.out
      rw [HLen.out] at this
      simpa using this

end Go.Proofs.Ytfmjcjkifjndgaa
