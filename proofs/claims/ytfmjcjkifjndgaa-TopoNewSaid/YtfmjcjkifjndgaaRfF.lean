/- Graphs, the document's side: New. -/
import Derived.Test.YtfmjcjkifjndgaaRfE
namespace Go.Proofs.Ytfmjcjkifjndgaa
open Go.RowKit
set_option linter.unusedVariables false
set_option linter.unusedSimpArgs false
set_option maxRecDepth 100000

theorem own_by {w w' : World} {B k n c : Nat} {t : TypeId} {A : Option Addr} {xs : List Value} (h : w.ownsRow B t k (.slice A n c) n xs) (hk : ∀ g cur, A = some ⟨g, 0, none⟩ → Has w g t cur → Has w' g t cur) : w'.ownsRow B t k (.slice A n c) n xs := by
  refine ⟨h.1, ?_⟩
  rcases h.2 with h2 | ⟨g, cap, cur, hv, hb, hh, r⟩
  · exact .inl h2
  · exact .inr ⟨g, cap, cur, hv, hb, hk g cur (by injection hv) hh, r⟩
theorem Has.past {w : World} {g : Nat} {t : TypeId} {cs : Array Value} (h : Has w g t cs) (p : Addr) (u : Value) (hne : g ≠ p.block) : Has (w.setCell p u) g t cs :=
  (Below.heap_setCell w p u g hne).trans h
def ones (k : Nat) : List Value := bits k fun _ => true
theorem ones_succ (k : Nat) : ones (k + 1) = ones k ++ [.bool true] := bits_succ _ _
theorem ones_fst (k : Nat) : ones k = bits k (fstF k) := by
  unfold ones bits
  refine List.map_congr_left fun i hi => ?_
  simp [fstF, List.mem_range.1 hi]

abbrev rcs (N : Int) (A1 : Option Addr) (n1 c1 : Nat) (A2 : Option Addr) (n2 c2 : Nat) (A3 : Option Addr) (n3 c3 : Nat) : Array Value := #[.int .i64 N, .slice A1 n1 c1, .slice A2 n2 c2, .slice A3 n3 c3]

structure RfY (w : World) (lo r : Nat) (s : GS) (A1 : Option Addr) (c1 : Nat) (A2 : Option Addr) (c2 : Nat) (A3 : Option Addr) (c3 : Nat) : Prop where
  blk : Has w r 87 (rcs s.N A1 s.L.length c1 A2 s.N c2 A3 s.L.length c3)
  rowL : w.ownsRow lo 26 3 (.slice A1 s.L.length c1) s.L.length (flatL s.L)
  rowN : w.ownsRow lo 4 1 (.slice A2 s.N c2) s.N (bits s.N s.al)
  rowK : w.ownsRow lo 4 1 (.slice A3 s.L.length c3) s.L.length (bits s.L.length s.li)
  apart : ∀ x, A2 = some ⟨x, 0, none⟩ → A3 = some ⟨x, 0, none⟩ → False
  low : lo ≤ r
  ok : s.ok
/-- The document's graph, all of whose blocks are from lo on. -/
def RfO (w : World) (lo r : Nat) (s : GS) : Prop := ∃ A1 c1 A2 c2 A3 c3, RfY w lo r s A1 c1 A2 c2 A3 c3
theorem RfO.rf {w : World} {lo r : Nat} {s : GS} (h : RfO w lo r s) : Rf w r s := by
  obtain ⟨A1, c1, A2, c2, A3, c3, h⟩ := h
  exact ⟨A1, c1, A2, c2, A3, c3, h.blk, .own rfl h.rowL, Sq.own h.rowN, Sq.own h.rowK, h.ok⟩
theorem own_high {w w' : World} {B k n c : Nat} {t : TypeId} {A : Option Addr} {xs : List Value} (h : w.ownsRow B t k (.slice A n c) n xs) (hk : ∀ X, B ≤ X → X < w.heap.size → w'.heap[X]? = w.heap[X]?) : w'.ownsRow B t k (.slice A n c) n xs :=
  own_by h (fun g cur e hh => (hk g (own_fresh h ⟨g, 0, none⟩ e) hh.lt).trans hh)
theorem RfO.high {w w' : World} {lo r : Nat} {s : GS} (h : RfO w lo r s) (hk : ∀ X, lo ≤ X → X < w.heap.size → w'.heap[X]? = w.heap[X]?) : RfO w' lo r s := by
  obtain ⟨A1, c1, A2, c2, A3, c3, h⟩ := h
  exact ⟨A1, c1, A2, c2, A3, c3, (hk r h.low h.blk.lt).trans h.blk, own_high h.rowL hk, own_high h.rowN hk, own_high h.rowK hk, h.apart, h.low, h.ok⟩
theorem RfO.below {w w' : World} {lo r : Nat} {s : GS} (h : RfO w lo r s) (hb : Below w.heap.size w w') : RfO w' lo r s := h.high (fun X _ hX => hb.block X hX)

/-- What New leaves where there is a graph. -/
def RNewTo (w : World) (s : GS) (e : Ending) (w' : World) : Prop := ∃ r, e = .returned (.tuple #[.pointer (some ⟨r, 0, none⟩), .int .i64 0]) ∧ RfO w' w.heap.size r s ∧ Below w.heap.size w w'

theorem rnew_no (N : Int) (A : Option Addr) (n c : Nat) (L : List LK) (w : World) (H : Lks w A n c L) (hm : n ≤ 1000000) (hv : valE N L ≠ 0) :
    Calls Try.prog 13 #[.int .i64 N, .slice A n c] w fun e w' => e = .returned (.tuple #[.pointer none, .int .i64 (valE N L)]) ∧ Below w.heap.size w w' := by
  have HH := Lib.hid H
  obtain ⟨r, hr⟩ : ∃ r, valE N L = r := ⟨_, rfl⟩
  rw [hr] at hv ⊢
  have hb : (r != 0) = true := by simp [hv]
  have HR := Lib.hid hr
  clear H hv hr
  go_enter Try.func13, Try.ntmps13
  go_wp2_with fail
  refine (rvalid_any N A n c L w HH.out hm).mono ?_
  rintro e w1 ⟨rfl, hb1⟩
  rw [HR.out]
  have HB1 := Lib.hid hb1
  clear hb1
  go_wp2_with fail
  go_ret2
  exact ⟨rfl, HB1.out⟩

set_option maxHeartbeats 4000000 in
theorem rnew_yes (N : Nat) (A : Option Addr) (n c : Nat) (L : List LK) (w : World) (H : Lks w A n c L) (hm : n ≤ 1000000) (hv : valE (N : Int) L = 0) :
    Calls Try.prog 13 #[.int .i64 (N : Int), .slice A n c] w (RNewTo w (gs0 N L)) := by
  have HH := Lib.hid H
  have HOK := Lib.hid (gs0_ok hv)
  have HLen := Lib.hid H.len
  have hn128 : n ≤ 128 := by rw [H.len]; exact (valE_ok hv).2.1
  have hN32 : N ≤ 32 := by have := (valE_ok hv).1; omega
  have HV := Lib.hid hv
  obtain ⟨i0, hi0, hz0, hz1, hz2⟩ := info_parts info_link
  obtain ⟨j0, hj0, hy0, hy1, hy2⟩ := info_parts info_bool
  clear H hv
  go_enter Try.func13, Try.ntmps13
  go_wp2_with fail
  refine (rvalid_any N A n c L w HH.out hm).mono ?_
  rintro e w1 ⟨rfl, hb1⟩
  rw [HV.out]
  have HB1 := Lib.hid hb1
  have HH1 := Lib.hid (HH.out.below hb1)
  have hsz1 : w.heap.size ≤ w1.heap.size := hb1.size
  -- a copy of the links, whatever the list is
  have hcopy : Hid (∀ (K : World → Value → Prop), True) := Lib.hid (fun _ => trivial)
  clear hb1 hcopy
  cases A with
  | none =>
    have h0 := HH.out.nil rfl
    have hL : L = [] := List.eq_nil_of_length_eq_zero (by rw [← HLen.out]; exact h0)
    subst h0 hL
    have HO1 := Lib.hid (own_empty w1 26 3)
    have HB2 := Lib.hid (alloc_below w1 (.cells #[] 26))
    obtain ⟨w2, hw2⟩ : ∃ w2, w1.alloc (.cells #[] 26) = w2 := ⟨_, rfl⟩
    rw [hw2] at HO1 HB2
    obtain ⟨r, hr⟩ : ∃ r, w2.heap.size = r := ⟨_, rfl⟩
    have hrw : w.heap.size ≤ r := by have := HB2.out.size; omega
    have hH3 := Has.new w2 87 (rcs (N : Int) (some ⟨w1.heap.size, 0, none⟩) 0 0 none 0 0 none 0 0)
    rw [hr] at hH3
    have HB3 := Lib.hid ((HB1.out.trans (HB2.out.mono hsz1)).trans ((alloc_below w2 (.cells (rcs (N : Int) (some ⟨w1.heap.size, 0, none⟩) 0 0 none 0 0 none 0 0) 87)).mono (by have := HB2.out.size; omega)))
    have HL3 := Lib.hid (own_keep HO1.out (alloc_below w2 (.cells (rcs (N : Int) (some ⟨w1.heap.size, 0, none⟩) 0 0 none 0 0 none 0 0) 87)))
    have HH3 := Lib.hid hH3
    clear hH3
    go_upto_region 5 with fail
    try rw [hw2]
    try rw [hr]
    generalize w2.alloc (.cells (rcs (N : Int) (some ⟨w1.heap.size, 0, none⟩) 0 0 none 0 0 none 0 0) 87) = W3 at *
    clear HO1 HB2
    go_wp2_with fail
    go_loopw [8] (fun i wr => ∃ (k : Nat) (A2 : Option Addr) (c2 : Nat), k ≤ N ∧ i = .int .i64 k ∧ Has wr r 87 (rcs (N : Int) (some ⟨w1.heap.size, 0, none⟩) 0 0 A2 k c2 none 0 0) ∧ wr.ownsRow W3.heap.size 4 1 (.slice A2 k c2) k (ones k) ∧ wr.ownsRow w1.heap.size 26 3 (.slice (some ⟨w1.heap.size, 0, none⟩) 0 0) 0 [] ∧ Below w.heap.size w wr ∧ W3.heap.size ≤ wr.heap.size) (fun i _ => N - (intOf i).toNat)
    case atStart => exact ⟨0, none, 0, Nat.zero_le _, rfl, HH3.out, World.ownsRow_nil _ _ _ _, HL3.out, HB3.out, Nat.le_refl _⟩
    case round =>
      obtain ⟨k, A2, c2, hk, rfl, hh, hown, hlr, hb, hsz⟩ := hrel
      have HG := Lib.hid hh
      have HO2 := Lib.hid hown
      have HL := Lib.hid hlr
      have HB := Lib.hid hb
      by_cases hlt : k < N
      · have hkl : (k : Int) < (N : Int) := by omega
        have q2 : wr.cell? ⟨r, 2, none⟩ = some (.slice A2 k c2) := hh.cell 2
        clear hh hown hlr hb
        go_wp2_with (at_builtin; refine wpList_append_own _ rfl _ _ 54 rfl W3.heap.size 4 j0 (.bool false) 1 1 Try.underlying54 hj0 hy0 hy1 hy2 rfl (by decide) _ _ _ rfl (HO2.out.alloc _) ⟨wr.heap.size, 0, none⟩ 1 1 [.bool true] rfl rfl (laid_block wr _ _) (by simp [Value.oneCell']) (by unfold maxLen; omega) (by omega) (by simp; omega) ?_)
        intro v' w6 hown hgrow hnil
        obtain ⟨A', c', rfl, _⟩ := own_form hown
        have hba : Below wr.heap.size wr (wr.alloc (.cells #[.bool true] 4)) := (Below.refl _ _).alloc (Nat.le_refl _) _
        have hk7 : ∀ (g : Nat) (t : TypeId) (cur : Array Value), t ≠ 4 → Has wr g t cur → Has w6 g t cur := fun g t cur ht h => (h.below hba).grown hgrow (fun e => own_not (h.below hba) ht (HO2.out.alloc _) e.symm)
        have hh6 := hk7 r _ _ (by decide) HG.out
        have HB6 : Hid (Below w.heap.size w w6) := Lib.hid (grown_below (HB.out.alloc HB.out.size _) hgrow (fun x hx => by have := (HO2.out.lt x hx).1; have := HB3.out.size; omega) (by have := HB.out.size; simp; omega))
        have HL6 := Lib.hid (own_by HL.out (fun g cur _ h => hk7 g _ cur (by decide) h))
        have hs6 : wr.heap.size ≤ w6.heap.size := Nat.le_trans (by simp) hgrow.size
        have HO6 := Lib.hid hown
        have HG6 := Lib.hid hh6
        have q26 : w6.cell? ⟨r, 2, none⟩ = some (.slice A2 k c2) := hh6.cell 2
        have f26 := hh6.free 2
        clear hown hgrow hnil hba hk7 hh6 q2
        go_wp2_with fail
        go_roundw
        case rel => exact ⟨k + 1, A', c', by omega, by go_num, HG6.out.set_ 2 (.slice A' (k + 1) c'), by rw [ones_succ]; exact own_by HO6.out (fun g cur _ h => h.past _ _ (h.unlike HG6.out (by decide))), own_by HL6.out (fun g cur _ h => h.past _ _ (h.unlike HG6.out (by decide))), HB6.out.setCell (p := ⟨r, 2, none⟩) hrw _, by simp [World.setCell]; omega⟩
        case measure => simp [intOf]; omega
      · obtain rfl : k = N := by omega
        clear hh hown hlr hb
        go_wp2_with fail
        obtain ⟨wo, hwo⟩ : ∃ wo : World, wo = wr := ⟨_, rfl⟩
        rw [← hwo] at HG HO2 HL HB hsz ⊢
        clear hwo
        have HA2 : Hid (∀ g, A2 = some ⟨g, 0, none⟩ → g < wo.heap.size) := Lib.hid (fun g e => by
          obtain ⟨A', c', e', h | ⟨g', _, h2, h⟩⟩ := own_form HO2.out
          · injection e' with e' _ _; rw [e', h] at e; cases e
          · injection e' with e' _ _; rw [e', h] at e; injection e with e; injection e with e _ _; omega)
        go_loopw [9] (fun i wr => ∃ (j : Nat) (A3 : Option Addr) (c3 : Nat), j ≤ 0 ∧ i = .int .i64 j ∧ Has wr r 87 (rcs (k : Int) (some ⟨w1.heap.size, 0, none⟩) 0 0 A2 k c2 A3 j c3) ∧ wr.ownsRow wo.heap.size 4 1 (.slice A3 j c3) j (ones j) ∧ wr.ownsRow W3.heap.size 4 1 (.slice A2 k c2) k (ones k) ∧ wr.ownsRow w1.heap.size 26 3 (.slice (some ⟨w1.heap.size, 0, none⟩) 0 0) 0 [] ∧ Below w.heap.size w wr ∧ wo.heap.size ≤ wr.heap.size) (fun i _ => 0 - (intOf i).toNat)
        case atStart => exact ⟨0, none, 0, Nat.zero_le _, rfl, HG.out, World.ownsRow_nil _ _ _ _, HO2.out, HL.out, HB.out, Nat.le_refl _⟩
        case round =>
          clear HG HO2 HL
          obtain ⟨j, A3, c3, hj, rfl, hh, hown, hor, hlr, hb, hsz4⟩ := hrel
          have HG := Lib.hid hh
          have HO3 := Lib.hid hown
          have HO2 := Lib.hid hor
          have HL := Lib.hid hlr
          have HBw := Lib.hid hb
          obtain rfl : j = 0 := by omega
          clear hh hown hor hlr hb
          go_wp2_with fail
          go_ret2
          refine ⟨r, rfl, ⟨some ⟨w1.heap.size, 0, none⟩, 0, A2, c2, A3, c3, ?_⟩, HBw.out⟩
          have s3 := HB3.out.size
          have s4 := HB.out.size
          refine ⟨?_, ?_, ?_, ?_, ?_, hrw, HOK.out⟩
          · have := HG.out; exact this
          · have := HL.out.mono hsz1; exact this
          · have := HO2.out.mono s3; rw [ones_fst] at this; exact this
          · have := HO3.out.mono s4; rw [ones_fst] at this; exact this
          · intro x e2 e3
            have h1 := HA2.out x e2
            have h2 := own_fresh HO3.out _ e3
            have : wo.heap.size ≤ x := h2
            omega
  | some ad =>
    have HE := Lib.hid (own_empty w1 26 3)
    have hba : Below w1.heap.size w1 (w1.alloc (.cells #[] 26)) := (Below.refl _ w1).alloc (Nat.le_refl _) _
    have HBa := Lib.hid hba
    have HC := Lib.hid ((HH1.out.below hba).cel ad rfl)
    have HL : Hid ((flatL L).length = n * 3) := Lib.hid (by rw [flatL_len, HLen.out])
    have HO := Lib.hid (flatL_one L)
    clear hba
    go_wp2_with (at_builtin; refine wpList_append_own _ rfl _ _ 22 rfl w1.heap.size 26 i0 (.agg #[.int .i64 0, .int .i64 0, .int .i64 0]) 3 24 Try.underlying22 hi0 hz0 hz1 hz2 rfl (by decide) _ 0 [] rfl HE.out ad n c (flatL L) rfl HL.out HC.out HO.out (by unfold maxLen; omega) (by omega) (by simp) ?_)
    intro v' w2 hown hgrow hnil
    obtain ⟨A1, c1, rfl, _⟩ := own_form hown
    have HB2 : Hid (Below w1.heap.size w1 w2) := Lib.hid (grown_below HBa.out hgrow (by simp [Value.ownBlock]) (by simp))
    have HO1 := Lib.hid hown
    clear hown hgrow hnil HE HBa HC HL HO
    obtain ⟨r, hr⟩ : ∃ r, w2.heap.size = r := ⟨_, rfl⟩
    have hrw : w.heap.size ≤ r := by have := HB2.out.size; omega
    have hH3 := Has.new w2 87 (rcs (N : Int) A1 n c1 none 0 0 none 0 0)
    rw [hr] at hH3
    have HB3 := Lib.hid ((HB1.out.trans (HB2.out.mono hsz1)).trans ((alloc_below w2 (.cells (rcs (N : Int) A1 n c1 none 0 0 none 0 0) 87)).mono (by have := HB2.out.size; omega)))
    have HL3 := Lib.hid (own_keep HO1.out (alloc_below w2 (.cells (rcs (N : Int) A1 n c1 none 0 0 none 0 0) 87)))
    have HH3 := Lib.hid hH3
    clear hH3
    go_upto_region 5 with fail
    try rw [hr]
    generalize w2.alloc (.cells (rcs (N : Int) A1 n c1 none 0 0 none 0 0) 87) = W3 at *
    clear HO1 HB2
    go_wp2_with fail
    go_loopw [8] (fun i wr => ∃ (k : Nat) (A2 : Option Addr) (c2 : Nat), k ≤ N ∧ i = .int .i64 k ∧ Has wr r 87 (rcs (N : Int) A1 n c1 A2 k c2 none 0 0) ∧ wr.ownsRow W3.heap.size 4 1 (.slice A2 k c2) k (ones k) ∧ wr.ownsRow w1.heap.size 26 3 (.slice A1 n c1) n (flatL L) ∧ Below w.heap.size w wr ∧ W3.heap.size ≤ wr.heap.size) (fun i _ => N - (intOf i).toNat)
    case atStart => exact ⟨0, none, 0, Nat.zero_le _, rfl, HH3.out, World.ownsRow_nil _ _ _ _, HL3.out, HB3.out, Nat.le_refl _⟩
    case round =>
      obtain ⟨k, A2, c2, hk, rfl, hh, hown, hlr, hb, hsz⟩ := hrel
      have HG := Lib.hid hh
      have HO2 := Lib.hid hown
      have HL := Lib.hid hlr
      have HB := Lib.hid hb
      by_cases hlt : k < N
      · have hkl : (k : Int) < (N : Int) := by omega
        have q2 : wr.cell? ⟨r, 2, none⟩ = some (.slice A2 k c2) := hh.cell 2
        clear hh hown hlr hb
        go_wp2_with (at_builtin; refine wpList_append_own _ rfl _ _ 54 rfl W3.heap.size 4 j0 (.bool false) 1 1 Try.underlying54 hj0 hy0 hy1 hy2 rfl (by decide) _ _ _ rfl (HO2.out.alloc _) ⟨wr.heap.size, 0, none⟩ 1 1 [.bool true] rfl rfl (laid_block wr _ _) (by simp [Value.oneCell']) (by unfold maxLen; omega) (by omega) (by simp; omega) ?_)
        intro v' w6 hown hgrow hnil
        obtain ⟨A', c', rfl, _⟩ := own_form hown
        have hba : Below wr.heap.size wr (wr.alloc (.cells #[.bool true] 4)) := (Below.refl _ _).alloc (Nat.le_refl _) _
        have hk7 : ∀ (g : Nat) (t : TypeId) (cur : Array Value), t ≠ 4 → Has wr g t cur → Has w6 g t cur := fun g t cur ht h => (h.below hba).grown hgrow (fun e => own_not (h.below hba) ht (HO2.out.alloc _) e.symm)
        have hh6 := hk7 r _ _ (by decide) HG.out
        have HB6 : Hid (Below w.heap.size w w6) := Lib.hid (grown_below (HB.out.alloc HB.out.size _) hgrow (fun x hx => by have := (HO2.out.lt x hx).1; have := HB3.out.size; omega) (by have := HB.out.size; simp; omega))
        have HL6 := Lib.hid (own_by HL.out (fun g cur _ h => hk7 g _ cur (by decide) h))
        have hs6 : wr.heap.size ≤ w6.heap.size := Nat.le_trans (by simp) hgrow.size
        have HO6 := Lib.hid hown
        have HG6 := Lib.hid hh6
        have q26 : w6.cell? ⟨r, 2, none⟩ = some (.slice A2 k c2) := hh6.cell 2
        have f26 := hh6.free 2
        clear hown hgrow hnil hba hk7 hh6 q2
        go_wp2_with fail
        go_roundw
        case rel => exact ⟨k + 1, A', c', by omega, by go_num, HG6.out.set_ 2 (.slice A' (k + 1) c'), by rw [ones_succ]; exact own_by HO6.out (fun g cur _ h => h.past _ _ (h.unlike HG6.out (by decide))), own_by HL6.out (fun g cur _ h => h.past _ _ (h.unlike HG6.out (by decide))), HB6.out.setCell (p := ⟨r, 2, none⟩) hrw _, by simp [World.setCell]; omega⟩
        case measure => simp [intOf]; omega
      · obtain rfl : k = N := by omega
        clear hh hown hlr hb
        go_wp2_with fail
        obtain ⟨wo, hwo⟩ : ∃ wo : World, wo = wr := ⟨_, rfl⟩
        rw [← hwo] at HG HO2 HL HB hsz ⊢
        clear hwo
        have HA2 : Hid (∀ g, A2 = some ⟨g, 0, none⟩ → g < wo.heap.size) := Lib.hid (fun g e => by
          obtain ⟨A', c', e', h | ⟨g', _, h2, h⟩⟩ := own_form HO2.out
          · injection e' with e' _ _; rw [e', h] at e; cases e
          · injection e' with e' _ _; rw [e', h] at e; injection e with e; injection e with e _ _; omega)
        go_loopw [9] (fun i wr => ∃ (j : Nat) (A3 : Option Addr) (c3 : Nat), j ≤ n ∧ i = .int .i64 j ∧ Has wr r 87 (rcs (k : Int) A1 n c1 A2 k c2 A3 j c3) ∧ wr.ownsRow wo.heap.size 4 1 (.slice A3 j c3) j (ones j) ∧ wr.ownsRow W3.heap.size 4 1 (.slice A2 k c2) k (ones k) ∧ wr.ownsRow w1.heap.size 26 3 (.slice A1 n c1) n (flatL L) ∧ Below w.heap.size w wr ∧ wo.heap.size ≤ wr.heap.size) (fun i _ => n - (intOf i).toNat)
        case atStart => exact ⟨0, none, 0, Nat.zero_le _, rfl, HG.out, World.ownsRow_nil _ _ _ _, HO2.out, HL.out, HB.out, Nat.le_refl _⟩
        case round =>
          clear HG HO2 HL
          obtain ⟨j, A3, c3, hj, rfl, hh, hown, hor, hlr, hb, hsz4⟩ := hrel
          have HG := Lib.hid hh
          have HO3 := Lib.hid hown
          have HO2 := Lib.hid hor
          have HL := Lib.hid hlr
          have HBw := Lib.hid hb
          by_cases hlt : j < n
          · have hkl : (j : Int) < (n : Int) := by omega
            have q2 : wr.cell? ⟨r, 3, none⟩ = some (.slice A3 j c3) := hh.cell 3
            clear hh hown hor hlr hb
            go_wp2_with (at_builtin; refine wpList_append_own _ rfl _ _ 54 rfl wo.heap.size 4 j0 (.bool false) 1 1 Try.underlying54 hj0 hy0 hy1 hy2 rfl (by decide) _ _ _ rfl (HO3.out.alloc _) ⟨wr.heap.size, 0, none⟩ 1 1 [.bool true] rfl rfl (laid_block wr _ _) (by simp [Value.oneCell']) (by unfold maxLen; omega) (by omega) (by simp; omega) ?_)
            intro v' w6 hown hgrow hnil
            obtain ⟨A', c', rfl, _⟩ := own_form hown
            have hba : Below wr.heap.size wr (wr.alloc (.cells #[.bool true] 4)) := (Below.refl _ _).alloc (Nat.le_refl _) _
            have hk7 : ∀ (g : Nat) (t : TypeId) (cur : Array Value), t ≠ 4 → Has wr g t cur → Has w6 g t cur := fun g t cur ht h => (h.below hba).grown hgrow (fun e => own_not (h.below hba) ht (HO3.out.alloc _) e.symm)
            have hk8 : ∀ (g : Nat) (t : TypeId) (cur : Array Value), g < wo.heap.size → Has wr g t cur → Has w6 g t cur := fun g t cur hg h => (h.below hba).grown hgrow (fun e => by have := (HO3.out.lt g e.symm).1; omega)
            have hh6 := hk7 r _ _ (by decide) HG.out
            have HB6 : Hid (Below w.heap.size w w6) := Lib.hid (grown_below (HBw.out.alloc HBw.out.size _) hgrow (fun x hx => by have := (HO3.out.lt x hx).1; have := HB.out.size; omega) (by have := HBw.out.size; simp; omega))
            have HL6 := Lib.hid (own_by HL.out (fun g cur _ h => hk7 g _ cur (by decide) h))
            have HO26 := Lib.hid (own_by HO2.out (fun g cur e h => hk8 g _ cur (HA2.out g e) h))
            have hs6 : wr.heap.size ≤ w6.heap.size := Nat.le_trans (by simp) hgrow.size
            have HO6 := Lib.hid hown
            have HG6 := Lib.hid hh6
            have q26 : w6.cell? ⟨r, 3, none⟩ = some (.slice A3 j c3) := hh6.cell 3
            have f26 := hh6.free 3
            clear hown hgrow hnil hba hk7 hk8 hh6 q2
            go_wp2_with fail
            go_roundw
            case rel => exact ⟨j + 1, A', c', by omega, by go_num, HG6.out.set_ 3 (.slice A' (j + 1) c'), by rw [ones_succ]; exact own_by HO6.out (fun g cur _ h => h.past _ _ (h.unlike HG6.out (by decide))), own_by HO26.out (fun g cur _ h => h.past _ _ (h.unlike HG6.out (by decide))), own_by HL6.out (fun g cur _ h => h.past _ _ (h.unlike HG6.out (by decide))), HB6.out.setCell (p := ⟨r, 3, none⟩) hrw _, by simp [World.setCell]; omega⟩
            case measure => simp [intOf]; omega
          · obtain rfl : j = n := by omega
            clear hh hown hor hlr hb
            go_wp2_with fail
            go_ret2
            refine ⟨r, rfl, ⟨A1, c1, A2, c2, A3, c3, ?_⟩, HBw.out⟩
            have hn := HLen.out
            have s3 := HB3.out.size
            have s4 := HB.out.size
            refine ⟨?_, ?_, ?_, ?_, ?_, hrw, HOK.out⟩
            · have := HG.out; rw [hn] at this; exact this
            · have := HL.out.mono hsz1; rw [hn] at this; exact this
            · have := HO2.out.mono s3; rw [ones_fst] at this; exact this
            · have := HO3.out.mono s4; rw [ones_fst, hn] at this; exact this
            · intro x e2 e3
              have h1 := HA2.out x e2
              have h2 := own_fresh HO3.out _ e3
              have : wo.heap.size ≤ x := h2
              omega

end Go.Proofs.Ytfmjcjkifjndgaa
