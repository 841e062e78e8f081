/- Graphs: the chapter's example; awake. -/
import Derived.Test.YtfmjcjkifjndgaaToO
import Derived.Test.YtfmjcjkifjndgaaToP
namespace Go.Proofs.Ytfmjcjkifjndgaa
open Go.RowKit
set_option linter.unusedVariables false
set_option linter.unusedSimpArgs false
set_option maxRecDepth 100000

theorem below_drewN {B : Nat} {w W : World} (h : Below B w W) (n : Nat) : Below B w (W.drewN n) := ⟨h.os, h.tape, h.output, h.size, h.block⟩
/-- A call that answers true and turns nothing old. -/
def Says (w : World) (b : Bool) (e : Ending) (w' : World) : Prop := e = .returned (.bool b) ∧ Below w.heap.size w w'
theorem same_ints {A A2 : Option Addr} {n c c2 : Nat} {xs : List Int} {w : World} (h : Sq w A n c 1 (ints xs)) (h2 : Sq w A2 n c2 1 (ints xs)) (hm : n ≤ 1000000) :
    Calls Try.prog 33 #[.slice A n c, .slice A2 n c2] w (Says w true) :=
  (same_int A A2 n c c2 xs w h h2 hm).mono fun _ _ ⟨he, q, hw⟩ => ⟨he, by rw [hw]; exact below_drewN (Below.refl _ _) q⟩
theorem same_bools {A A2 : Option Addr} {n c c2 : Nat} {xs : List Bool} {w : World} (h : Sq w A n c 1 (xs.map Value.bool)) (h2 : Sq w A2 n c2 1 (xs.map Value.bool)) (hm : n ≤ 1000000) :
    Calls Try.prog 34 #[.slice A n c, .slice A2 n c2] w (Says w true) :=
  (same_bool A A2 n c c2 xs w h h2 hm).mono fun _ _ ⟨he, q, hw⟩ => ⟨he, by rw [hw]; exact below_drewN (Below.refl _ _) q⟩
theorem same_edges {A A2 : Option Addr} {n c c2 : Nat} {xs : List ED} {w : World} (h : Sq w A n c 3 (flatE xs)) (h2 : Sq w A2 n c2 3 (flatE xs)) (hm : n ≤ 1000000) :
    Calls Try.prog 40 #[.slice A n c, .slice A2 n c2] w (Says w true) :=
  (same_edge A A2 n c c2 xs w h h2 hm).mono fun _ _ ⟨he, q, hw⟩ => ⟨he, by rw [hw]; exact below_drewN (Below.refl _ _) q⟩
theorem same_links {A A2 : Option Addr} {n c c2 : Nat} {xs : List LK} {w : World} (h : Sq w A n c 3 (flatL xs)) (h2 : Sq w A2 n c2 3 (flatL xs)) (hm : n ≤ 1000000) :
    Calls Try.prog 14 #[.slice A n c, .slice A2 n c2] w (Says w true) :=
  (same_link A A2 n c c2 xs w h h2 hm).mono fun _ _ ⟨he, q, hw⟩ => ⟨he, by rw [hw]; exact below_drewN (Below.refl _ _) q⟩
theorem natv_ints (xs : List Nat) : natv xs = ints (xs.map fun (x : Nat) => (x : Int)) := by simp [natv, ints]
/-- A literal in a block of its own. -/
theorem lit_sq (w : World) (t : TypeId) (xs : List Value) (n k : Nat) (hl : xs.length = n * k) : Sq (w.alloc (.cells xs.toArray t)) (some ⟨w.heap.size, 0, none⟩) n n k xs := .block (Has.new _ _ _) hl
theorem lit_lks (w : World) (L : List LK) (n : Nat) (hn : n = L.length) (hm : n ≤ 1000) : Lks (w.alloc (.cells (flatL L).toArray 26)) (some ⟨w.heap.size, 0, none⟩) n n L :=
  ⟨hn, Nat.le_refl _, by unfold maxLen; omega, fun e => (by cases e), fun ad e j u hu => by
    injection e with e
    subst e
    exact laid_block w _ (flatL L) j u hu⟩
theorem alloc_below (w : World) (o : Obj) : Below w.heap.size w (w.alloc o) := (Below.refl _ _).alloc (Nat.le_refl _) o

theorem four_any (w : World) :
    Calls Try.prog 32 #[] w fun e w' => ∃ g b, e = .returned (.tuple #[.pointer (some ⟨g, 0, none⟩), .bool true]) ∧ Gr w' g b G4 ∧ w.heap.size ≤ g ∧ w.heap.size ≤ b ∧ Below w.heap.size w w' := by
  have HL := Lib.hid (lit_lks w L4 4 rfl (by decide))
  have HB := Lib.hid (alloc_below w (.cells (flatL L4).toArray 26))
  go_enter Try.func32, Try.ntmps32
  go_wp2_with fail
  refine (new_yes 4 _ 4 4 L4 _ HL.out L4_ok).mono ?_
  rintro e w1 ⟨g, b, rfl, hG, hg, hb, hB⟩
  have HG := Lib.hid hG
  have HB1 := Lib.hid hB
  have hg1 : w.heap.size ≤ g := by have := HB.out.size; simp at hg; omega
  have hb1 : w.heap.size ≤ b := by have := HB.out.size; simp at hb; omega
  clear hG hB hg hb
  go_wp2_with fail
  go_ret2
  exact ⟨g, b, rfl, HG.out, hg1, hb1, HB.out.trans (HB1.out.mono HB.out.size)⟩

/-- The rows of a list of two lists. -/
theorem rws_two {w : World} {B p c : Nat} {A : Option Addr} {xs ys : List Nat} (h : Rws w B A p c [xs, ys]) : ∃ g h0 c0 h1 c1, p = 2 ∧ A = some ⟨g, 0, none⟩ ∧ 2 ≤ c ∧ w.cell? ⟨g, 0, none⟩ = some (.slice (some ⟨h0, 0, none⟩) xs.length c0) ∧ w.cell? ⟨g, 1, none⟩ = some (.slice (some ⟨h1, 0, none⟩) ys.length c1) ∧ RowN w h0 c0 xs ∧ RowN w h1 c1 ys := by
  obtain ⟨R, h1, h2, h3, h4, h5⟩ := h
  match R, h1 with
  | [r, q], h1 =>
    simp at h1
    obtain ⟨rfl, rfl⟩ := h1
    simp at h2
    subst h2
    rcases h3.2 with ⟨_, h6⟩ | ⟨g, cap, cur, hv, hb, hh, hc, _⟩
    · omega
    · cases hv
      have c0 := h3.cellAt 0 (by omega)
      have c1 := h3.cellAt 1 (by omega)
      exact ⟨g, _, _, _, _, rfl, rfl, hc, c0, c1, (h4 r (by simp)).2, (h4 q (by simp)).2⟩
theorem RowN.sq {w : World} {h c : Nat} {xs : List Nat} (H : RowN w h c xs) : Sq w (some ⟨h, 0, none⟩) xs.length c 1 (natv xs) := by
  refine ⟨by simp [natv], ?_, fun _ => ⟨h, 0, rfl, ?_, fun j v hv => ?_⟩⟩
  · obtain ⟨_, _, _, _, hl, _⟩ := H; exact hl
  · obtain ⟨_, hh, _⟩ := H; exact hh.lt
  · simp only [natv, List.getElem?_map] at hv
    obtain ⟨x, hx, rfl⟩ := Option.map_eq_some_iff.1 hv
    rw [Nat.zero_add]
    exact H.at_ hx
theorem RowN.below {w w' : World} {h c : Nat} {xs : List Nat} (H : RowN w h c xs) (hb : Below w.heap.size w w') : RowN w' h c xs := H.keep fun cur hc => hc.below hb

theorem two_any (g b : Nat) (s : GS) (xs ys : List Nat) (A A2 : Option Addr) (n m c c2 : Nat) (w : World) (H : Gr w g b s) (hc : s.comps = [xs, ys]) (hn : xs.length = n) (hm : ys.length = m) (h1 : Sq w A n c 1 (natv xs)) (h2 : Sq w A2 m c2 1 (natv ys)) (hl : n ≤ 1000) (hl2 : m ≤ 1000) :
    Calls Try.prog 35 #[.pointer (some ⟨g, 0, none⟩), .slice A n c, .slice A2 m c2] w (Says w true) := by
  have HH := Lib.hid H
  have HC := Lib.hid hc
  have H1 := Lib.hid h1
  have H2 := Lib.hid h2
  have HN := Lib.hid hn
  have HM := Lib.hid hm
  clear H hc h1 h2 hn hm
  go_enter Try.func35, Try.ntmps35
  go_wp2_with fail
  refine (comps_any g b s w HH.out).mono ?_
  rintro e w1 ⟨A1, c1, rfl, h3, h4⟩
  rw [HC.out] at h3 ⊢
  obtain ⟨gr, r0, k0, r1, k1, _, rfl, hcc, q0, q1, hr0, hr1⟩ := rws_two h3
  rw [HN.out] at q0
  rw [HM.out] at q1
  have HR0 := Lib.hid hr0
  have HR1 := Lib.hid hr1
  have HB1 := Lib.hid h4
  have hgl := World.block_lt_of_cell? _ _ q0
  clear h3 h4 hr0 hr1
  simp only [List.length_cons, List.length_nil, Nat.zero_add, Nat.reduceAdd]
  go_wp2_with fail
  have s0 := HR0.out.sq
  rw [HN.out, natv_ints] at s0
  have t0 := H1.out.below HB1.out
  rw [natv_ints] at t0
  refine (same_ints s0 t0 (by omega)).mono ?_
  rintro e w2 ⟨rfl, hb2⟩
  have HB2 := Lib.hid hb2
  have q1' : w2.cell? ⟨gr, 1, none⟩ = some (.slice (some ⟨r1, 0, none⟩) m k1) := (hb2.cell (p := ⟨gr, 1, none⟩) hgl).trans q1
  clear s0 t0 hb2 q1 q0
  go_wp2_with fail
  have s1 := (HR1.out.below HB2.out).sq
  rw [HM.out, natv_ints] at s1
  have t1 := (H2.out.below HB1.out).below HB2.out
  rw [natv_ints] at t1
  refine (same_ints s1 t1 (by omega)).mono ?_
  rintro e w3 ⟨rfl, hb3⟩
  have HB3 := Lib.hid hb3
  clear s1 t1 hb3
  go_wp2_with fail
  go_ret
  exact ⟨rfl, (HB1.out.trans (HB2.out.mono HB1.out.size)).trans (HB3.out.mono (Nat.le_trans HB1.out.size HB2.out.size))⟩

end Go.Proofs.Ytfmjcjkifjndgaa
