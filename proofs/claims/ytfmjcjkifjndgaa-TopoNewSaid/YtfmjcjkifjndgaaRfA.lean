/- Graphs, the document's side: Alive, Up, Flags. -/
import Derived.Test.YtfmjcjkifjndgaaToV
import Derived.BigQuiet
namespace Go.Proofs.Ytfmjcjkifjndgaa
open Go.RowKit
set_option linter.unusedVariables false
set_option linter.unusedSimpArgs false
set_option maxRecDepth 100000

def bits (n : Nat) (F : Nat → Bool) : List Value := (List.range n).map fun i => Value.bool (F i)
theorem bits_get {n : Nat} {F : Nat → Bool} {k : Nat} (h : k < n) : (bits n F)[k]? = some (.bool (F k)) := by simp [bits, h]
theorem bits_len (n : Nat) (F : Nat → Bool) : (bits n F).length = n * 1 := by simp [bits]
theorem bits_succ (n : Nat) (F : Nat → Bool) : bits (n + 1) F = bits n F ++ [.bool (F n)] := by simp [bits, List.range_succ]
theorem flags_bits (s : GS) : s.flags.map Value.bool = bits s.L.length s.up := by simp [GS.flags, bits]
theorem bit_cell {w : World} {A : Option Addr} {n c : Nat} {F : Nat → Bool} (h : Sq w A n c 1 (bits n F)) {k : Nat} (hk : k < n) : ∃ b o, A = some ⟨b, o, none⟩ ∧ b < w.heap.size ∧ n ≤ c ∧ w.cell? ⟨b, o + k, none⟩ = some (.bool (F k)) := by
  obtain ⟨b, o, e, hb, hc⟩ := h.cel (by omega)
  exact ⟨b, o, e, hb, h.cap, hc k _ (bits_get hk)⟩
theorem own_keep {w w' : World} {B k n : Nat} {t : TypeId} {v : Value} {xs : List Value} (h : w.ownsRow B t k v n xs) (hb : Below w.heap.size w w') : w'.ownsRow B t k v n xs := by
  refine ⟨h.1, ?_⟩
  rcases h.2 with h2 | ⟨g, cap, cur, hv, hb2, hh, r⟩
  · exact .inl h2
  · exact .inr ⟨g, cap, cur, hv, hb2, Has.below (show Has w g t cur from hh) hb, r⟩

structure RfX (w : World) (r : Nat) (s : GS) (A1 : Option Addr) (c1 : Nat) (A2 : Option Addr) (c2 : Nat) (A3 : Option Addr) (c3 : Nat) : Prop where
  blk : Has w r 87 #[.int .i64 s.N, .slice A1 s.L.length c1, .slice A2 s.N c2, .slice A3 s.L.length c3]
  lk : Lks w A1 s.L.length c1 s.L
  al : Sq w A2 s.N c2 1 (bits s.N s.al)
  li : Sq w A3 s.L.length c3 1 (bits s.L.length s.li)
  ok : s.ok
/-- Block r is the document's graph. -/
def Rf (w : World) (r : Nat) (s : GS) : Prop := ∃ A1 c1 A2 c2 A3 c3, RfX w r s A1 c1 A2 c2 A3 c3
theorem Rf.below {w w' : World} {r : Nat} {s : GS} (h : Rf w r s) (hb : Below w.heap.size w w') : Rf w' r s := by
  obtain ⟨A1, c1, A2, c2, A3, c3, h⟩ := h
  exact ⟨A1, c1, A2, c2, A3, c3, h.blk.below hb, h.lk.below hb, h.al.below hb, h.li.below hb, h.ok⟩
theorem Rf.ok {w : World} {r : Nat} {s : GS} (h : Rf w r s) : s.ok := by obtain ⟨_, _, _, _, _, _, h⟩ := h; exact h.ok
theorem Rf.lt {w : World} {r : Nat} {s : GS} (h : Rf w r s) : r < w.heap.size := by obtain ⟨_, _, _, _, _, _, h⟩ := h; exact h.blk.lt

theorem ralive_any (r : Nat) (s : GS) (w : World) (H : Rf w r s) (n : Int) :
    Calls Try.prog 48 #[.pointer (some ⟨r, 0, none⟩), .int .i64 n] w (Says w (s.alive n)) := by
  obtain ⟨A1, c1, A2, c2, A3, c3, h⟩ := H
  have y0 : w.cell? ⟨r, 0, none⟩ = some (.int .i64 s.N) := h.blk.cell 0
  have y2 : w.cell? ⟨r, 2, none⟩ = some (.slice A2 s.N c2) := h.blk.cell 2
  have hm := h.ok.n32
  by_cases h0 : 0 ≤ n
  · obtain ⟨k, rfl⟩ : ∃ k : Nat, n = k := ⟨n.toNat, by omega⟩
    have hd0 : decide ((0 : Int) ≤ (k : Int)) = true := by simp
    have hr : s.alive (k : Int) = s.al k := by unfold GS.alive; simp
    rw [hr]
    by_cases hk : k < s.N
    · have hd1 : decide ((k : Int) < (s.N : Int)) = true := by simp; omega
      obtain ⟨b2, o2, rfl, _, hc2, q2⟩ := bit_cell h.al hk
      obtain ⟨u, hu⟩ : ∃ u, s.al k = u := ⟨_, rfl⟩
      rw [hu] at q2 ⊢
      have hkI : (k : Int) < (s.N : Int) := by omega
      clear h hu hr h0
      go_enter Try.func48, Try.ntmps48
      go_wp2_with fail
      go_ret
      exact ⟨rfl, Below.refl _ _⟩
    · have hd1 : decide ((k : Int) < (s.N : Int)) = false := by simp; omega
      have hu : s.al k = false := by rw [← Bool.not_eq_true]; intro h9; exact hk (h.ok.alN k h9)
      rw [hu]
      clear h hu hr h0
      go_enter Try.func48, Try.ntmps48
      go_wp2_with fail
      go_ret
      exact ⟨rfl, Below.refl _ _⟩
  · have hd0 : decide ((0 : Int) ≤ n) = false := by simp; omega
    have hr : s.alive n = false := by unfold GS.alive; simp [h0]
    rw [hr]
    clear h h0 hr
    go_enter Try.func48, Try.ntmps48
    go_wp2_with fail
    go_ret
    exact ⟨rfl, Below.refl _ _⟩

set_option maxHeartbeats 4000000 in
theorem rup_q (r : Nat) (s : GS) (w : World) (H : Rf w r s) (n : Int) :
    Calls Try.prog 52 #[.pointer (some ⟨r, 0, none⟩), .int .i64 n] w fun e w' => e = .returned (.bool (s.upI n)) ∧ ∃ q, w' = w.drewN q := by
  obtain ⟨A1, c1, A2, c2, A3, c3, h⟩ := H
  have y1 : w.cell? ⟨r, 1, none⟩ = some (.slice A1 s.L.length c1) := h.blk.cell 1
  have y2 : w.cell? ⟨r, 2, none⟩ = some (.slice A2 s.N c2) := h.blk.cell 2
  have y3 : w.cell? ⟨r, 3, none⟩ = some (.slice A3 s.L.length c3) := h.blk.cell 3
  have hm := h.ok.m128
  by_cases h0 : 0 ≤ n
  · obtain ⟨k, rfl⟩ : ∃ k : Nat, n = k := ⟨n.toNat, by omega⟩
    have hd0 : decide ((0 : Int) ≤ (k : Int)) = true := by simp
    rw [upI_nat]
    by_cases hk : k < s.L.length
    · have hd1 : decide ((k : Int) < (s.L.length : Int)) = true := by simp; omega
      have hkI : (k : Int) < (s.L.length : Int) := by omega
      obtain ⟨x, hx⟩ : ∃ x, s.L[k]? = some x := ⟨s.L[k], by simp [hk]⟩
      obtain ⟨b3, o3, rfl, _, hc3, q3⟩ := bit_cell h.li hk
      have hlk := h.lk
      obtain ⟨b1, o1, rfl, _⟩ := hlk.plain (by omega)
      have hc1 := hlk.cap
      obtain ⟨l0, l1, _⟩ := hlk.at_ hx
      obtain ⟨a0, a1, b0, b1', _⟩ := fine_at h.ok hx
      obtain ⟨a, ha⟩ : ∃ a : Nat, x.a = a := ⟨x.a.toNat, by omega⟩
      obtain ⟨b, hb⟩ : ∃ b : Nat, x.b = b := ⟨x.b.toNat, by omega⟩
      rw [ha] at l0 a1
      rw [hb] at l1 b1'
      obtain ⟨b2, o2, rfl, _, hc2, qa⟩ := bit_cell h.al (show a < s.N by omega)
      obtain ⟨b2', o2', e2, _, _, qb⟩ := bit_cell h.al (show b < s.N by omega)
      cases e2
      have hu : s.up k = (s.li k && s.al a && s.al b) := by unfold GS.up; rw [hx]; simp [ha, hb]
      rw [hu]
      obtain ⟨u3, hu3⟩ : ∃ u, s.li k = u := ⟨_, rfl⟩
      obtain ⟨ua, hua⟩ : ∃ u, s.al a = u := ⟨_, rfl⟩
      obtain ⟨ub, hub⟩ : ∃ u, s.al b = u := ⟨_, rfl⟩
      rw [hu3] at q3 ⊢
      rw [hua] at qa ⊢
      rw [hub] at qb ⊢
      clear h hlk hx ha hb hu hu3 hua hub h0 a0 b0
      cases u3
      · go_enter Try.func52, Try.ntmps52
        go_wp2_with fail
        go_quiet (fail)
        go_wp2_with fail
        go_ret
        exact ⟨rfl, _, rfl⟩
      · cases ua
        · go_enter Try.func52, Try.ntmps52
          go_wp2_with fail
          go_quiet (fail)
          go_wp2_with fail
          go_ret
          exact ⟨rfl, _, rfl⟩
        · go_enter Try.func52, Try.ntmps52
          go_wp2_with fail
          go_quiet (fail)
          go_wp2_with fail
          go_ret
          exact ⟨by simp, _, rfl⟩
    · have hd1 : decide ((k : Int) < (s.L.length : Int)) = false := by simp; omega
      have hu : s.up k = false := by unfold GS.up; rw [List.getElem?_eq_none (by omega)]
      rw [hu]
      clear h hu h0
      go_enter Try.func52, Try.ntmps52
      go_wp2_with fail
      go_quiet (fail)
      go_wp2_with fail
      go_ret
      exact ⟨rfl, _, rfl⟩
  · have hd0 : decide ((0 : Int) ≤ n) = false := by simp; omega
    have hr : s.upI n = false := by unfold GS.upI; simp [h0]
    rw [hr]
    clear h h0 hr
    go_enter Try.func52, Try.ntmps52
    go_wp2_with fail
    go_quiet (fail)
    go_wp2_with fail
    go_ret
    exact ⟨rfl, _, rfl⟩

theorem rup_any (r : Nat) (s : GS) (w : World) (H : Rf w r s) (n : Int) :
    Calls Try.prog 52 #[.pointer (some ⟨r, 0, none⟩), .int .i64 n] w (Says w (s.upI n)) :=
  (rup_q r s w H n).mono fun _ _ ⟨he, q, hw⟩ => ⟨he, by rw [hw]; exact below_drewN (Below.refl _ _) q⟩

theorem rflags_any (r : Nat) (s : GS) (w : World) (H : Rf w r s) :
    Calls Try.prog 46 #[.pointer (some ⟨r, 0, none⟩)] w (Gives w 4 1 s.L.length (s.flags.map Value.bool)) := by
  have HH := Lib.hid H
  obtain ⟨A1, c1, A2, c2, A3, c3, h⟩ := H
  have y1 : w.cell? ⟨r, 1, none⟩ = some (.slice A1 s.L.length c1) := h.blk.cell 1
  have HY1 := Lib.hid y1
  have hrl := h.blk.lt
  have hm := h.ok.m128
  obtain ⟨j0, hj0, hz0, hz1, hz2⟩ := info_parts info_bool
  clear h y1
  go_enter Try.func46, Try.ntmps46
  go_wp2_with fail
  go_loopw [3, 4] (fun v i wr => ∃ (k : Nat) (A : Option Addr) (c : Nat), k ≤ s.L.length ∧ i = .int .i64 k ∧ v = .slice A k c ∧ wr.ownsRow w.heap.size 4 1 (.slice A k c) k (bits k s.up) ∧ Below w.heap.size w wr) (fun _ i _ => s.L.length - (intOf i).toNat)
  case atStart => exact ⟨0, none, 0, Nat.zero_le _, rfl, rfl, World.ownsRow_nil _ _ _ _, Below.refl _ _⟩
  case round =>
    obtain ⟨k, A, c, hk, rfl, rfl, hown, hb⟩ := hrel
    have y1 : wr.cell? ⟨r, 1, none⟩ = some (.slice A1 s.L.length c1) := (hb.cell (p := ⟨r, 1, none⟩) hrl).trans HY1.out
    by_cases hlt : k < s.L.length
    · have hkl : (k : Int) < (s.L.length : Int) := by omega
      have HG := Lib.hid (HH.out.below hb)
      have HO := Lib.hid hown
      have HB := Lib.hid hb
      clear hown hb
      go_wp2_with fail
      refine (rup_any r s wr HG.out k).mono ?_
      rintro e w5 ⟨rfl, hb5⟩
      rw [upI_nat]
      have HB5 := Lib.hid (HB.out.trans (hb5.mono HB.out.size))
      have HO5 := Lib.hid (own_keep HO.out hb5)
      clear hb5
      go_wp2_with (at_builtin; refine wpList_append_own _ rfl _ _ 54 rfl w.heap.size 4 j0 (.bool false) 1 1 Try.underlying54 hj0 hz0 hz1 hz2 rfl (by decide) _ _ _ rfl (HO5.out.alloc _) ⟨w5.heap.size, 0, none⟩ 1 1 [.bool (s.up k)] rfl rfl (laid_block w5 _ _) (by simp [Value.oneCell']) (by unfold maxLen; omega) (by omega) (by have := HB5.out.size; simp; omega) ?_)
      intro v' w6 hown hgrow hnil
      obtain ⟨A', c', rfl, _⟩ := own_form hown
      have HO6 := Lib.hid hown
      have HB6 : Hid (Below w.heap.size w w6) := Lib.hid (grown_below (HB5.out.alloc HB5.out.size _) hgrow (fun r hr => (HO5.out.lt r hr).1) (by have := HB5.out.size; simp; omega))
      clear hown hgrow hnil
      go_wp2_with fail
      go_roundw
      case rel => exact ⟨k + 1, A', c', by omega, by go_num, rfl, by rw [bits_succ]; exact HO6.out, HB6.out⟩
      case measure => simp [intOf]; omega
    · obtain rfl : k = s.L.length := by omega
      have HO := Lib.hid hown
      have HB := Lib.hid hb
      clear hown hb
      go_wp2_with fail
      go_ret
      refine ⟨A, c, rfl, ?_, HB.out⟩
      rw [flags_bits]
      exact HO.out

end Go.Proofs.Ytfmjcjkifjndgaa
