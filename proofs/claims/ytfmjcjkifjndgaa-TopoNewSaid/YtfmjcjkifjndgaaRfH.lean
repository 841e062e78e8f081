/- Graphs: TopoNew's walk. -/
import Derived.Test.YtfmjcjkifjndgaaRfG
namespace Go.Proofs.Ytfmjcjkifjndgaa
open Go.RowKit
set_option linter.unusedVariables false
set_option linter.unusedSimpArgs false
set_option maxRecDepth 100000

theorem Gr.high {w w' : World} {g b : Nat} {s : GS} (h : Gr w g b s) (hs : w.heap.size ≤ w'.heap.size) (hg : w'.heap[g]? = w.heap[g]?) (hb : w'.heap[b]? = w.heap[b]?) : Gr w' g b s := by
  obtain ⟨A, c, a0, a1, i0, i1, h⟩ := h
  refine ⟨A, c, a0, a1, i0, i1, hg.trans h.blk, own_by h.row (fun x cur e hh => ?_), h.ad, h.al, h.li, h.ok, Nat.lt_of_lt_of_le h.bl hs⟩
  rcases h.ad with h9 | h9
  · rw [h9] at e; cases e
  · rw [h9] at e; injection e with e; injection e with e _ _; subst e
    exact hb.trans hh

set_option maxHeartbeats 8000000 in
theorem newLaw_any (l : Int) (A : Option Addr) (n c : Nat) (L : List LK) (w : World) (H : Lks w A n c L) :
    Calls Try.prog 3 #[.int .i64 l, .slice A n c] w (Says w true) := by
  have HH := Lib.hid H
  have HLen := Lib.hid H.len
  clear H
  go_enter Try.func3, Try.ntmps3
  by_cases h200 : 200 < n
  · have hd : decide ((200 : Int) < (n : Int)) = true := by simp; omega
    clear h200
    go_wp2_with fail
    refine (awake_any w).mono ?_
    rintro e w1 ⟨rfl, hb⟩
    have HB := Lib.hid hb
    clear hb
    go_wp2_with fail
    go_ret
    exact ⟨rfl, HB.out⟩
  · have hd : decide ((200 : Int) < (n : Int)) = false := by simp; omega
    have hn200 : n ≤ 200 := by omega
    clear h200
    go_wp2_with fail
    refine (own_link A n c L w HH.out (by omega)).mono ?_
    rintro e w1 ⟨Ai, ci, rfl, ho1, hb1⟩
    rw [← HLen.out] at ho1 ⊢
    have HO1 := Lib.hid ho1
    have HB1 := Lib.hid hb1
    have hs1 : w.heap.size ≤ w1.heap.size := hb1.size
    clear ho1 hb1
    by_cases hv : valE l L = 0
    · obtain ⟨N, rfl⟩ : ∃ N : Nat, l = N := ⟨l.toNat, by have := (valE_ok hv).1; omega⟩
      have HV := Lib.hid hv
      clear hv
      go_wp2_with fail
      refine (new_yes N Ai n ci L w1 (.own HLen.out HO1.out) HV.out).mono ?_
      rintro e w2 ⟨g, b, rfl, hG, hg, hbo, hb2⟩
      have HG2 := Lib.hid hG
      have HB2 := Lib.hid (HB1.out.trans (hb2.mono hs1))
      have HO2 := Lib.hid (own_keep HO1.out hb2)
      have hs2 : w1.heap.size ≤ w2.heap.size := hb2.size
      clear hG hb2
      go_wp2_with fail
      refine (rnew_yes N A n c L w2 (HH.out.below HB2.out) (by omega) HV.out).mono ?_
      rintro e w3 ⟨r, rfl, hR, hb3⟩
      have HR3 := Lib.hid hR
      have HG3 := Lib.hid (HG2.out.below hb3)
      have HB3 := Lib.hid (HB2.out.trans (hb3.mono HB2.out.size))
      have HO3 := Lib.hid (own_keep HO2.out hb3)
      clear hR hb3
      go_wp2_with fail
      refine (same_links (Sq.own HO3.out) (HH.out.below HB3.out).sq' (by omega)).mono ?_
      rintro e w4 ⟨rfl, hb4⟩
      have HR4 := Lib.hid (HR3.out.below hb4)
      have HG4 := Lib.hid (HG3.out.below hb4)
      have HB4 := Lib.hid (HB3.out.trans (hb4.mono HB3.out.size))
      have HO4 := Lib.hid (own_keep HO3.out hb4)
      clear hb4
      have HAl : Hid (0 < n → ∃ gl, Ai = some ⟨gl, 0, none⟩ ∧ n ≤ ci) := Lib.hid (fun h0 => by
        obtain ⟨b9, o9, e9, _⟩ := (Sq.own HO1.out).cel h0
        obtain ⟨A', c', e', h | ⟨g', _, _, h⟩⟩ := own_form HO1.out
        · injection e' with e' _ _; rw [e', h] at e9; cases e9
        · injection e' with e' _ _; exact ⟨g', e'.trans h, (Sq.own HO1.out).cap⟩)
      have HLo : Hid (∀ gl, Ai = some ⟨gl, 0, none⟩ → w.heap.size ≤ gl ∧ gl < w1.heap.size) := Lib.hid (fun gl e => by
        refine ⟨own_fresh HO1.out _ e, ?_⟩
        obtain ⟨A', c', e', h | ⟨g', _, h2, h⟩⟩ := own_form HO1.out
        · injection e' with e' _ _; rw [e', h] at e; cases e
        · injection e' with e' _ _; rw [e', h] at e; injection e with e; injection e with e _ _; omega)
      have HCl : Hid (∀ gl, Ai = some ⟨gl, 0, none⟩ → ∃ cur : Array Value, Has w4 gl 26 cur ∧ n * 3 ≤ cur.size) := Lib.hid (fun gl e => by
        rcases HO4.out.2 with ⟨h1, _⟩ | ⟨g9, cap, cur, hv9, hb9, hh9, hc9, hcm9, hcs9, ht9⟩
        · injection h1 with h1 _ _; rw [h1] at e; cases e
        · injection hv9 with h1 _ h3
          rw [h1] at e
          injection e with e; injection e with e _ _
          subst e
          exact ⟨cur, hh9, by omega⟩)
      go_wp2_with fail
      go_loopw [10] (fun i wr => ∃ k : Nat, k ≤ n ∧ i = .int .i64 k ∧ Below w.heap.size w wr ∧ Hid ((∀ X, w1.heap.size ≤ X → X < w4.heap.size → wr.heap[X]? = w4.heap[X]?) ∧ w4.heap.size ≤ wr.heap.size) ∧ Hid (∀ gl, Ai = some ⟨gl, 0, none⟩ → ∃ cur : Array Value, Has wr gl 26 cur ∧ n * 3 ≤ cur.size)) (fun i _ => n - (intOf i).toNat)
      case atStart => exact ⟨0, Nat.zero_le _, rfl, HB4.out, Lib.hid ⟨fun _ _ _ => rfl, Nat.le_refl _⟩, HCl⟩
      case round =>
        obtain ⟨k, hk, rfl, hb, HHi, HCu⟩ := hrel
        by_cases hlt : k < n
        · obtain ⟨gl, rfl, hlc⟩ := HAl.out (by omega)
          obtain ⟨cur, hcur, hcs⟩ := HCu.out gl rfl
          obtain ⟨hwg, hgw1⟩ := HLo.out gl rfl
          have hkl : (k : Int) < (n : Int) := by omega
          have HBk := Lib.hid hb
          have HCur := Lib.hid hcur
          obtain ⟨u0, hu0⟩ : ∃ u, cur[k * 3]? = some u := ⟨cur[k * 3]'(by omega), by rw [Array.getElem?_eq_getElem]⟩
          obtain ⟨u1, hu1⟩ : ∃ u, cur[k * 3 + 1]? = some u := ⟨cur[k * 3 + 1]'(by omega), by rw [Array.getElem?_eq_getElem]⟩
          obtain ⟨u2, hu2⟩ : ∃ u, cur[k * 3 + 2]? = some u := ⟨cur[k * 3 + 2]'(by omega), by rw [Array.getElem?_eq_getElem]⟩
          have e0 : wr.cell? ⟨gl, k * 3, none⟩ = some u0 := by rw [hcur.cell, hu0]
          have e1 : wr.cell? ⟨gl, k * 3 + 1, none⟩ = some u1 := by rw [hcur.cell, hu1]
          have e2 : wr.cell? ⟨gl, k * 3 + 2, none⟩ = some u2 := by rw [hcur.cell, hu2]
          have f0 := hcur.free (k * 3)
          have f1 := hcur.free (k * 3 + 1)
          have f2 := hcur.free (k * 3 + 2)
          clear hb hcur HCu hu0 hu1 hu2
          go_wp2_with fail
          refine ⟨⟨k + 1, by omega, by go_num, ((HBk.out.setCell (p := ⟨gl, k * 3, none⟩) hwg _).setCell (p := ⟨gl, k * 3 + 1, none⟩) hwg _).setCell (p := ⟨gl, k * 3 + 2, none⟩) hwg _, Lib.hid ⟨fun X h1 h2 => ?_, by simpa [World.setCell] using HHi.out.2⟩, Lib.hid (fun gl2 e => ?_)⟩, by simp [intOf]; omega⟩
          · have hne : X ≠ gl := by omega
            rw [Below.heap_setCell _ _ _ _ hne, Below.heap_setCell _ _ _ _ hne, Below.heap_setCell _ _ _ _ hne]
            exact HHi.out.1 X h1 h2
          · injection e with e
            injection e with e _ _
            subst e
            exact ⟨_, ((HCur.out.set_ (k * 3) _).set_ (k * 3 + 1) _).set_ (k * 3 + 2) _, by simpa using hcs⟩
        · obtain rfl : k = n := by omega
          have HBk := Lib.hid hb
          have hgl := HG4.out.lt
          have hbl := HG4.out.lb
          have HGk := Lib.hid (HG4.out.high HHi.out.2 (HHi.out.1 g hg hgl) (HHi.out.1 b hbo (by omega)))
          have HRk := Lib.hid (HR4.out.high (fun X h1 h2 => HHi.out.1 X (by omega) h2)).rf
          clear hb HCu
          go_wp2_with fail
          refine (same_all g b r (gs0 N L) wr HGk.out HRk.out).mono ?_
          rintro e w5 ⟨rfl, hb5⟩
          have HB5 := Lib.hid (HBk.out.trans (hb5.mono HBk.out.size))
          clear hb5
          go_wp2_with fail
          refine (awake_any w5).mono ?_
          rintro e w6 ⟨rfl, hb6⟩
          have HB6 := Lib.hid (HB5.out.trans (hb6.mono HB5.out.size))
          clear hb6
          go_wp2_with fail
          go_ret
          exact ⟨rfl, HB6.out⟩
    · go_wp2_with fail
      refine (new_no l Ai n ci L w1 (.own HLen.out HO1.out) hv).mono ?_
      rintro e w2 ⟨rfl, hb2⟩
      have HB2 := Lib.hid (HB1.out.trans (hb2.mono hs1))
      have HO2 := Lib.hid (own_keep HO1.out hb2)
      clear hb2
      go_wp2_with fail
      refine (rnew_no l A n c L w2 (HH.out.below HB2.out) (by omega) hv).mono ?_
      rintro e w3 ⟨rfl, hb3⟩
      have HB3 := Lib.hid (HB2.out.trans (hb3.mono HB2.out.size))
      have HO3 := Lib.hid (own_keep HO2.out hb3)
      obtain ⟨u, hu⟩ : ∃ u, valE l L = u := ⟨_, rfl⟩
      rw [hu]
      have hbne : (u != u) = false := bne_self_eq_false u
      clear hb3 hu hv
      go_wp2_with fail
      refine (same_links (Sq.own HO3.out) (HH.out.below HB3.out).sq' (by omega)).mono ?_
      rintro e w4 ⟨rfl, hb4⟩
      have HB4 := Lib.hid (HB3.out.trans (hb4.mono HB3.out.size))
      clear hb4
      go_wp2_with fail
      refine (awake_any w4).mono ?_
      rintro e w5 ⟨rfl, hb5⟩
      have HB5 := Lib.hid (HB4.out.trans (hb5.mono HB4.out.size))
      clear hb5
      go_wp2_with fail
      go_ret
      exact ⟨rfl, HB5.out⟩

end Go.Proofs.Ytfmjcjkifjndgaa
