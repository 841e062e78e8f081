/- Graphs: the law's same: both graphs answer alike. -/
import Derived.Test.YtfmjcjkifjndgaaRfF
namespace Go.Proofs.Ytfmjcjkifjndgaa
open Go.RowKit
set_option linter.unusedVariables false
set_option linter.unusedSimpArgs false
set_option maxRecDepth 100000

theorem Lks.sq' {w : World} {A : Option Addr} {n c : Nat} {L : List LK} (h : Lks w A n c L) : Sq w A n c 3 (flatL L) :=
  ⟨by rw [flatL_len, h.len], h.cap, fun h0 => by
    obtain ⟨b, o, rfl, hb⟩ := h.plain h0
    exact ⟨b, o, rfl, hb, fun j v hv => by have := h.cel _ rfl j v hv; rw [add_plain] at this; exact this⟩⟩
theorem rws_row {w : World} {base p c : Nat} {A : Option Addr} {R : List (Nat × Nat × List Nat)} (H : RwsR w base A p c R) {i : Nat} {x : Nat × Nat × List Nat} (hx : R[i]? = some x) :
    ∃ g cur, A = some ⟨g, 0, none⟩ ∧ base ≤ g ∧ Has w g 58 cur ∧ cur[i]? = some (cellR x) ∧ p ≤ c ∧ base ≤ x.1 ∧ RowN w x.1 x.2.1 x.2.2 := by
  obtain ⟨h2, h3, h4, h5⟩ := H
  have hi := (List.getElem?_eq_some_iff.1 hx).1
  have hr := h4 x (List.mem_of_getElem? hx)
  rcases h3.2 with ⟨_, h6⟩ | ⟨g, cap, cur, hv, hbb, hh, hc, hcm, hcs, ht⟩
  · omega
  · have hh' : Has w g 58 cur := hh
    have h9 := h3.cells (g := g) (by rw [hv]; rfl) i (cellR x) (by rw [List.getElem?_map, hx]; rfl)
    rw [add_plain, Nat.zero_add, hh'.cell] at h9
    injection hv with hv _ e3
    exact ⟨g, cur, hv, hbb, hh', h9, by omega, hr.1, hr.2⟩
theorem row_block {w : World} {h c : Nat} {xs : List Nat} (H : RowN w h c xs) : ∃ cur, Has w h 3 cur ∧ cur.size = c ∧ xs.length ≤ c := by
  obtain ⟨cur, hh, hs, _, hl, _⟩ := H
  exact ⟨cur, hh, hs, hl⟩

/-- All but the first i of these blocks, and what is new, is as it was. -/
def KpA (R : List (Nat × Nat × List Nat)) (W : World) (i : Nat) (w : World) : Prop := W.heap.size ≤ w.heap.size ∧ ∀ B, B < W.heap.size → (∀ j x, j < i → R[j]? = some x → B ≠ x.1) → w.heap[B]? = W.heap[B]?
theorem KpA.has {R : List (Nat × Nat × List Nat)} {W w : World} {i B : Nat} {t : TypeId} {cs : Array Value} (h : KpA R W i w) (hh : Has W B t cs) (hne : ∀ j x, j < i → R[j]? = some x → B ≠ x.1) : Has w B t cs :=
  (h.2 B hh.lt hne).trans hh
theorem KpA.next {R : List (Nat × Nat × List Nat)} {W w w1 w2 : World} {i : Nat} {x : Nat × Nat × List Nat} (h : KpA R W i w) (hb : Below w.heap.size w w1) (hx : R[i]? = some x) (hO : Only w1 x.1 w2) : KpA R W (i + 1) w2 :=
  ⟨Nat.le_trans h.1 (Nat.le_trans hb.size hO.size), fun B hB hne => by
    have h1 := hne i x (by omega) hx
    have h2 := h.2 B hB (fun j y hj hy => hne j y (by omega) hy)
    have hBw : B < w.heap.size := Nat.lt_of_lt_of_le hB h.1
    exact ((hO.block B (Nat.lt_of_lt_of_le hBw hb.size) (by intro h9; injection h9 with h9; exact h1 h9)).trans (hb.block B hBw)).trans h2⟩
theorem row_lt {R : List (Nat × Nat × List Nat)} (h : (R.map (·.1)).Pairwise (· < ·)) {i j : Nat} {x y : Nat × Nat × List Nat} (hj : j < i) (hx : R[i]? = some x) (hy : R[j]? = some y) : y.1 < x.1 := by
  obtain ⟨hi, rfl⟩ := List.getElem?_eq_some_iff.1 hx
  obtain ⟨hj', rfl⟩ := List.getElem?_eq_some_iff.1 hy
  have := List.pairwise_iff_getElem.1 h j i (by simpa using hj') (by simpa using hi) hj
  simpa using this

set_option maxHeartbeats 8000000 in
theorem same_all (g b r : Nat) (s : GS) (w : World) (HG0 : Gr w g b s) (HR0 : Rf w r s) :
    Calls Try.prog 15 #[.pointer (some ⟨g, 0, none⟩), .pointer (some ⟨r, 0, none⟩)] w (Says w true) := by
  have HG := Lib.hid HG0
  have HR := Lib.hid HR0
  have HOK := Lib.hid HG0.ok
  have hN := HG0.ok.n32
  have hM := HG0.ok.m128
  have hrl := HR0.lt
  obtain ⟨A1, c1, A2, c2, A3, c3, h⟩ := HR0
  have HLK := Lib.hid h.lk
  have y0 : w.cell? ⟨r, 0, none⟩ = some (.int .i64 s.N) := h.blk.cell 0
  have y1 : w.cell? ⟨r, 1, none⟩ = some (.slice A1 s.L.length c1) := h.blk.cell 1
  have HY0 := Lib.hid y0
  have HY1 := Lib.hid y1
  obtain ⟨p, hp⟩ : ∃ p, s.comps.length = p := ⟨_, rfl⟩
  have hp32 : p ≤ 32 := by rw [← hp]; exact (comps_small HOK.out).1
  have HC2 := Lib.hid (comps_small HOK.out).2
  have HP := Lib.hid hp
  have HGB : Hid (∀ W', Below w.heap.size w W' → Gr W' g b s) := Lib.hid (fun W' h => HG.out.below h)
  have HRB : Hid (∀ W', Below w.heap.size w W' → Rf W' r s) := Lib.hid (fun W' h => HR.out.below h)
  have HS : Hid (∀ W', Below w.heap.size w W' → (W'.cell? ⟨r, 0, none⟩ = some (.int .i64 s.N) ∧ W'.cell? ⟨r, 1, none⟩ = some (.slice A1 s.L.length c1)) ∧ Below w.heap.size w W') := Lib.hid (fun W' h => ⟨⟨(h.cell (p := ⟨r, 0, none⟩) hrl).trans HY0.out, (h.cell (p := ⟨r, 1, none⟩) hrl).trans HY1.out⟩, h⟩)
  have hd0 : Below w.heap.size w w.drew := below_drewN (Below.refl _ _) 1
  have hnn : ((s.N : Int) != (s.N : Int)) = false := by simp
  have hpp : ((p : Int) != (p : Int)) = false := by simp
  clear h HG0 hp
  go_enter Try.func15, Try.ntmps15
  go_wp2_with fail
  go_region_held3 (fun w' => (w'.cell? ⟨r, 0, none⟩ = some (.int .i64 s.N) ∧ w'.cell? ⟨r, 1, none⟩ = some (.slice A1 s.L.length c1)) ∧ Below w.heap.size w w')
    (first | exact HS.out _ (by assumption) | go_keep)
    (first
      | (go_at_call 25; refine (nodes_any g b s _ (HGB.out _ (by assumption))).mono ?_; rintro e w' ⟨rfl, rfl⟩)
      | (go_at_call 26
         refine (links_any g b s _ (HGB.out _ hd0)).mono ?_
         rintro e w3 ⟨B3, d3, rfl, ho3, hb3⟩
         have hb3' := hd0.trans (hb3.mono (Nat.le_refl _)))
      | (go_at_call 14
         refine (same_links (Sq.own ho3) (HLK.out.below hb3').sq' (by omega)).mono ?_
         rintro e w4 ⟨rfl, hb4⟩
         have hb4' := hb3'.trans (hb4.mono hb3'.size))
      | (go_at_call 27
         refine (flags_any g b s _ (HGB.out _ hb4')).mono ?_
         rintro e w5 ⟨B5, d5, rfl, ho5, hb5⟩
         have hb5' := hb4'.trans (hb5.mono hb4'.size))
      | (go_at_call 46
         refine (rflags_any r s _ (HRB.out _ hb5')).mono ?_
         rintro e w6 ⟨B6, d6, rfl, ho6, hb6⟩
         have hb6' := hb5'.trans (hb6.mono hb5'.size))
      | (go_at_call 34
         refine (same_bools ((Sq.own ho5).below hb6) (Sq.own ho6) (by omega)).mono ?_
         rintro e w7 ⟨rfl, hb7⟩
         have hb7' := hb6'.trans (hb7.mono hb6'.size)))
  have HB7 := Lib.hid hb7'
  clear hd0 hb3 hb3' hb4 hb4' hb5 hb5' hb6 hb6' hb7 hb7' ho3 ho5 ho6 y0 y1
  go_wp2_with fail
  refine (comps_any g b s w7 (HGB.out _ HB7.out)).mono ?_
  rintro e w8 ⟨Ac, cc, rfl, ⟨RA, hRa1, hRa⟩, hb8⟩
  rw [HP.out] at hRa ⊢
  have HB8 := Lib.hid (HB7.out.trans (hb8.mono HB7.out.size))
  have h78 := hb8.size
  have h07 := HB7.out.size
  clear hb8
  go_wp2_with fail
  refine (rcomps_any r s w8 (HRB.out _ HB8.out)).mono ?_
  rintro e w9 ⟨Ad, cd, rfl, ⟨RB, hRb1, hRb⟩, hb9⟩
  rw [HP.out] at hRb ⊢
  have HB9 := Lib.hid (HB8.out.trans (hb9.mono HB8.out.size))
  have HRa8 := Lib.hid hRa
  have HRa := Lib.hid (hRa.keep fun g t cur _ h => h.below hb9 : RwsR w9 w7.heap.size Ac p cc RA)
  have HRb := Lib.hid hRb
  have HRa1 := Lib.hid hRa1
  have HRb1 := Lib.hid hRb1
  have h89 := hb9.size
  clear hRa hRb hRa1 hRb1 hb9
  go_wp2_with fail
  go_loopw [7] (fun i wr => ∃ k : Nat, k ≤ p ∧ i = .int .i64 k ∧ Hid (KpA RA w9 k wr) ∧ Below w.heap.size w wr) (fun i _ => p - (intOf i).toNat)
  case atStart => exact ⟨0, Nat.zero_le _, rfl, Lib.hid ⟨Nat.le_refl _, fun _ _ _ => rfl⟩, HB9.out⟩
  case round =>
    obtain ⟨k, hk, rfl, HK, hb⟩ := hrel
    by_cases hlt : k < p
    · have hkA : k < RA.length := by rw [HRa.out.1]; exact hlt
      have hkB : k < RB.length := by rw [HRb.out.1]; exact hlt
      obtain ⟨x, hx⟩ : ∃ x, RA[k]? = some x := ⟨RA[k], by rw [List.getElem?_eq_getElem hkA]⟩
      obtain ⟨y, hy⟩ : ∃ y, RB[k]? = some y := ⟨RB[k], by rw [List.getElem?_eq_getElem hkB]⟩
      have hlx : s.comps[k]? = some x.2.2 := by rw [← HRa1.out, List.getElem?_map, hx]; rfl
      have hly : s.comps[k]? = some y.2.2 := by rw [← HRb1.out, List.getElem?_map, hy]; rfl
      have hxy : y.2.2 = x.2.2 := by rw [hlx] at hly; injection hly with h; exact h.symm
      have hq32 := HC2.out _ (List.mem_of_getElem? hlx)
      obtain ⟨g1, cur1, rfl, hg1, hh1, hc1, hpc1, hx1, hrx⟩ := rws_row HRa.out hx
      obtain ⟨g2, cur2, rfl, hg2, hh2, hc2, hpc2, hy1, hry⟩ := rws_row HRb.out hy
      obtain ⟨xc, hxc, hxs, hxl⟩ := row_block hrx
      obtain ⟨yc, hyc, hys, hyl⟩ := row_block hry
      have hx8 : x.1 < w8.heap.size := by
        obtain ⟨cur, hh, _⟩ := row_block (HRa8.out.2.2.1 x (List.mem_of_getElem? hx)).2
        exact hh.lt
      -- what stands still so far
      have hrows : ∀ (j : Nat) (z : Nat × Nat × List Nat), RA[j]? = some z → ∃ cur, Has w9 z.1 3 cur := fun j z hz => by
        obtain ⟨cur, hh, _⟩ := row_block (HRa.out.2.2.1 z (List.mem_of_getElem? hz)).2
        exact ⟨cur, hh⟩
      have hr8 : ∀ (j : Nat) (z : Nat × Nat × List Nat), RA[j]? = some z → z.1 < w8.heap.size := fun j z hz => by
        obtain ⟨cur, hh, _⟩ := row_block (HRa8.out.2.2.1 z (List.mem_of_getElem? hz)).2
        exact hh.lt
      have k1 : Has wr g1 58 cur1 := HK.out.has hh1 (fun j z _ hz => by obtain ⟨cur, hh⟩ := hrows j z hz; exact hh1.unlike hh (by decide))
      have k2 : Has wr g2 58 cur2 := HK.out.has hh2 (fun j z _ hz => by obtain ⟨cur, hh⟩ := hrows j z hz; exact hh2.unlike hh (by decide))
      have kx : RowN wr x.1 x.2.1 x.2.2 := hrx.keep fun cur hh => HK.out.has hh (fun j z hj hz => by have := row_lt HRa.out.2.2.2 hj hx hz; omega)
      have ky : RowN wr y.1 y.2.1 y.2.2 := hry.keep fun cur hh => HK.out.has hh (fun j z hj hz => by have := hr8 j z hz; omega)
      have hkl : (k : Int) < (p : Int) := by omega
      obtain ⟨q, hq⟩ : ∃ q, x.2.2.length = q := ⟨_, rfl⟩
      have hqy : y.2.2.length = q := by rw [hxy]; exact hq
      have qa : wr.cell? ⟨g1, k, none⟩ = some (.slice (some ⟨x.1, 0, none⟩) q x.2.1) := by rw [k1.cell, hc1]; simp [cellR, hq]
      have qb : wr.cell? ⟨g2, k, none⟩ = some (.slice (some ⟨y.1, 0, none⟩) q y.2.1) := by rw [k2.cell, hc2]; simp [cellR, hqy]
      rw [hq] at hq32 hxl
      have hne1 : g1 ≠ x.1 := hh1.unlike hxc (by decide)
      have HX := Lib.hid hx
      have hd0 : Below wr.heap.size wr wr.drew := below_drewN (Below.refl _ _) 1
      have HSx := Lib.hid (kx.below hd0).sq
      have HSy := Lib.hid (ky.below hd0).sq
      have HXY := Lib.hid hxy
      have HQ := Lib.hid hq
      have HKx := Lib.hid kx
      have HK1 := Lib.hid k1
      have HC1 := Lib.hid hc1
      have HSr : Hid (∀ W', Below wr.heap.size wr W' → (W'.cell? ⟨g1, k, none⟩ = some (.slice (some ⟨x.1, 0, none⟩) q x.2.1) ∧ W'.cell? ⟨g2, k, none⟩ = some (.slice (some ⟨y.1, 0, none⟩) q y.2.1)) ∧ Below wr.heap.size wr W') := Lib.hid (fun W' h => ⟨⟨(h.cell (p := ⟨g1, k, none⟩) (World.block_lt_of_cell? _ _ qa)).trans qa, (h.cell (p := ⟨g2, k, none⟩) (World.block_lt_of_cell? _ _ qb)).trans qb⟩, h⟩)
      have HB := Lib.hid hb
      have hwx : w.heap.size ≤ x.1 := by omega
      clear hkA hkB hx hy hlx hly hxy hh1 hc1 hrx hh2 hc2 hry hxc hxs hyc hys hyl hrows hr8 k1 k2 kx ky hq hqy hb
      go_wp2_with fail
      go_region_held3 (fun w' => (w'.cell? ⟨g1, k, none⟩ = some (.slice (some ⟨x.1, 0, none⟩) q x.2.1) ∧ w'.cell? ⟨g2, k, none⟩ = some (.slice (some ⟨y.1, 0, none⟩) q y.2.1)) ∧ Below wr.heap.size wr w')
        (first | exact HSr.out _ (by assumption) | go_keep)
        ((go_at_call 33
          have s8 := HSx.out
          have s9 := HSy.out
          rw [HXY.out] at s9
          rw [natv_ints] at s8 s9
          rw [HQ.out] at s8 s9
          refine (same_ints s8 s9 (by omega)).mono ?_
          rintro e w10 ⟨rfl, hb10⟩
          have hb10' := hd0.trans (hb10.mono (Nat.le_refl _))))
      have HB10 := Lib.hid hb10'
      have HKx10 := Lib.hid (HKx.out.below hb10')
      have HK10 := Lib.hid (HK1.out.below hb10')
      clear hd0 hb10 hb10' s8 s9 qa qb
      obtain ⟨⟨qa, qb⟩, _⟩ := HSr.out w10 HB10.out
      go_wp2_with fail
      clear qa qb
      go_loopw [8] (fun v wr => ∃ j : Nat, j ≤ q ∧ v = .int .i64 j ∧ Only w10 x.1 wr ∧ ∃ cur : Array Value, Has wr x.1 3 cur ∧ cur.size = x.2.1) (fun v _ => q - (intOf v).toNat)
      case atStart =>
        obtain ⟨cur, hh, hs, _⟩ := row_block HKx10.out
        exact ⟨0, Nat.zero_le _, rfl, only_refl _ _, cur, hh, hs⟩
      case round =>
        obtain ⟨j, hj, rfl, hO, cur, hcur, hcs⟩ := hrel
        have qa : wr.cell? ⟨g1, k, none⟩ = some (.slice (some ⟨x.1, 0, none⟩) q x.2.1) := by
          have h9 : Has wr g1 58 cur1 := HK10.out.grown hO (by intro h9; injection h9 with h9; exact hne1 h9)
          rw [h9.cell, HC1.out]; simp [cellR, HQ.out]
        have HO := Lib.hid hO
        by_cases hjq : j < q
        · have hjl : (j : Int) < (q : Int) := by omega
          obtain ⟨u, hu⟩ : ∃ u, cur[j]? = some u := ⟨cur[j]'(by omega), by rw [Array.getElem?_eq_getElem]⟩
          have q1 : wr.cell? ⟨x.1, j, none⟩ = some u := by rw [hcur.cell, hu]
          have f1 := hcur.free j
          have HCur := Lib.hid hcur
          clear hcur hO
          go_wp2_with fail
          go_roundw
          case rel => exact ⟨j + 1, by omega, by go_num, only_set HO.out (.inl rfl) _, _, HCur.out.set_ j _, by simpa using hcs⟩
          case measure => simp [intOf]; omega
        · obtain rfl : j = q := by omega
          have HKn : Hid (KpA RA w9 (k + 1) wr) := Lib.hid (HK.out.next HB10.out HX.out hO)
          have HBn : Hid (Below w.heap.size w wr) := Lib.hid (below_only (HB.out.trans (HB10.out.mono HB.out.size)) hO hwx (by have := HB.out.size; have := HB10.out.size; omega))
          clear hcur hO
          go_wp2_with fail
          go_roundw
          case rel => exact ⟨k + 1, by omega, by go_num, HKn, HBn.out⟩
          case measure => simp [intOf]; omega
    · obtain rfl : k = p := by omega
      have HB := Lib.hid hb
      clear hb HK HRa HRb HRa8
      go_wp2_with fail
      obtain ⟨wo, rfl⟩ : ∃ wo : World, wo = wr := ⟨_, rfl⟩
      go_loopw [9] (fun v wr => ∃ j : Nat, j ≤ s.N + 2 ∧ v = .int .i64 ((j : Int) - 1) ∧ Below w.heap.size w wr) (fun v _ => (s.N + 2) - (intOf v + 1).toNat)
      case atStart => exact ⟨0, Nat.zero_le _, rfl, HB.out⟩
      case round =>
        clear HB
        obtain ⟨j, hj, rfl, hb⟩ := hrel
        have y0 : wr.cell? ⟨r, 0, none⟩ = some (.int .i64 s.N) := (hb.cell (p := ⟨r, 0, none⟩) hrl).trans HY0.out
        have HB := Lib.hid hb
        by_cases hjN : j ≤ s.N + 1
        · obtain ⟨m, hm⟩ : ∃ m : Int, (j : Int) - 1 = m := ⟨_, rfl⟩
          rw [hm]
          have hmN : decide (m ≤ (s.N : Int)) = true := by simp; omega
          have hGa := HGB.out wr hb
          have hRa := HRB.out wr hb
          have HGa := Lib.hid hGa
          have HRa := Lib.hid hRa
          clear hb hGa hRa
          go_wp2_with fail
          refine (alive_any g b s wr HGa.out m).mono ?_
          rintro e w' ⟨rfl, rfl⟩
          go_wp2_with fail
          refine (ralive_any r s wr HRa.out m).mono ?_
          rintro e v1 ⟨rfl, hv1⟩
          have HV1 := Lib.hid (HB.out.trans (hv1.mono HB.out.size))
          have hbne : (s.alive m != s.alive m) = false := bne_self_eq_false _
          have hl1 : (s.neigh m).length ≤ 128 := Nat.le_trans (nbr_len _ _ _) hM
          have hl2 : (s.compI m).length ≤ 32 := by
            unfold GS.compI
            split
            · exact Nat.le_trans (comp_len _ _) hN
            · simp
          have hl3 : (s.btw m 0).length ≤ 128 := by unfold GS.btw; exact Nat.le_trans (btwOf_len _ _) hl1
          clear hv1
          go_wp2_with fail
          refine (neigh_any g b s v1 (HGB.out _ HV1.out) m).mono ?_
          rintro e v2 ⟨B2, d2, rfl, ho2, hv2⟩
          have HO2 := Lib.hid (Sq.own ho2)
          have HV2 := Lib.hid (HV1.out.trans (hv2.mono HV1.out.size))
          clear ho2 hv2
          go_wp2_with fail
          refine (rneigh_any r s v2 (HRB.out _ HV2.out) m).mono ?_
          rintro e v3 ⟨B3, d3, rfl, ho3, hv3⟩
          have HO23 := Lib.hid (HO2.out.below hv3)
          have HO3 := Lib.hid (Sq.own ho3)
          have HV3 := Lib.hid (HV2.out.trans (hv3.mono HV2.out.size))
          clear ho3 hv3
          go_wp2_with fail
          refine (same_edges HO23.out HO3.out (by omega)).mono ?_
          rintro e v4 ⟨rfl, hv4⟩
          have HV4 := Lib.hid (HV3.out.trans (hv4.mono HV3.out.size))
          clear hv4
          go_wp2_with fail
          refine (comp_any g b s v4 (HGB.out _ HV4.out) m).mono ?_
          rintro e v5 ⟨B5, d5, rfl, ho5, hv5⟩
          have s5 := Sq.own ho5
          rw [natv_ints] at s5
          have HO5 := Lib.hid s5
          have HV5 := Lib.hid (HV4.out.trans (hv5.mono HV4.out.size))
          clear ho5 hv5 s5
          go_wp2_with fail
          refine (rcomp_any r s v5 (HRB.out _ HV5.out) m).mono ?_
          rintro e v6 ⟨B6, d6, rfl, ho6, hv6⟩
          have s6 := Sq.own ho6
          rw [natv_ints] at s6
          have HO56 := Lib.hid (HO5.out.below hv6)
          have HO6 := Lib.hid s6
          have HV6 := Lib.hid (HV5.out.trans (hv6.mono HV5.out.size))
          clear ho6 hv6 s6
          go_wp2_with fail
          refine (same_ints HO56.out HO6.out (by omega)).mono ?_
          rintro e v7 ⟨rfl, hv7⟩
          have HV7 := Lib.hid (HV6.out.trans (hv7.mono HV6.out.size))
          clear hv7
          go_wp2_with fail
          refine (btw_any g b s v7 (HGB.out _ HV7.out) m 0).mono ?_
          rintro e v8 ⟨B8, d8, rfl, ho8, hv8⟩
          have HO8 := Lib.hid (Sq.own ho8)
          have HV8 := Lib.hid (HV7.out.trans (hv8.mono HV7.out.size))
          clear ho8 hv8
          go_wp2_with fail
          refine (rbtw_any r s v8 (HRB.out _ HV8.out) m 0).mono ?_
          rintro e v9 ⟨B9, d9, rfl, ho9, hv9⟩
          have HO89 := Lib.hid (HO8.out.below hv9)
          have HO9 := Lib.hid (Sq.own ho9)
          have HV9 := Lib.hid (HV8.out.trans (hv9.mono HV8.out.size))
          clear ho9 hv9
          go_wp2_with fail
          refine (same_ints HO89.out HO9.out (by omega)).mono ?_
          rintro e v10 ⟨rfl, hv10⟩
          have HV10 := Lib.hid (HV9.out.trans (hv10.mono HV9.out.size))
          clear hv10
          go_wp2_with fail
          go_roundw
          case rel => exact ⟨j + 1, by omega, by first | go_num | (congr 1; omega), HV10.out⟩
          case measure => simp only [intOf]; omega
        · obtain ⟨m, hm⟩ : ∃ m : Int, (j : Int) - 1 = m := ⟨_, rfl⟩
          rw [hm]
          have hmN : decide (m ≤ (s.N : Int)) = false := by simp; omega
          clear hb
          go_wp2_with fail
          refine (links_any g b s wr (HGB.out _ HB.out)).mono ?_
          rintro e v1 ⟨Al, cl, rfl, hol, hvl⟩
          have HAl : Hid (0 < s.L.length → ∃ gl, Al = some ⟨gl, 0, none⟩ ∧ s.L.length ≤ cl) := Lib.hid (fun h0 => by
            obtain ⟨b9, o9, e9, _⟩ := (Sq.own hol).cel h0
            obtain ⟨A', c', e', h | ⟨g', _, _, h⟩⟩ := own_form hol
            · injection e' with e' _ _; rw [e', h] at e9; cases e9
            · injection e' with e' _ _; exact ⟨g', e'.trans h, (Sq.own hol).cap⟩)
          have HCl : Hid (∀ gl, Al = some ⟨gl, 0, none⟩ → w.heap.size ≤ gl ∧ ∃ cur : Array Value, Has v1 gl 26 cur ∧ s.L.length * 3 ≤ cur.size) := Lib.hid (fun gl e => by
            rcases hol.2 with ⟨h1, _⟩ | ⟨g9, cap, cur, hv9, hb9, hh9, hc9, hcm9, hcs9, ht9⟩
            · injection h1 with h1 _ _; rw [h1] at e; cases e
            · injection hv9 with h1 _ h3
              rw [h1] at e
              injection e with e; injection e with e _ _
              subst e
              exact ⟨Nat.le_trans HB.out.size hb9, cur, hh9, by omega⟩)
          have HV1 := Lib.hid (HB.out.trans (hvl.mono HB.out.size))
          clear hol hvl
          go_wp2_with fail
          go_loopw [11] (fun i wr => ∃ k : Nat, k ≤ s.L.length ∧ i = .int .i64 k ∧ Below w.heap.size w wr ∧ Hid (∀ gl, Al = some ⟨gl, 0, none⟩ → ∃ cur : Array Value, Has wr gl 26 cur ∧ s.L.length * 3 ≤ cur.size)) (fun i _ => s.L.length - (intOf i).toNat)
          case atStart => exact ⟨0, Nat.zero_le _, rfl, HV1.out, Lib.hid (fun gl e => (HCl.out gl e).2)⟩
          case round =>
            obtain ⟨k, hk, rfl, hb, HCu⟩ := hrel
            have y1 : wr.cell? ⟨r, 1, none⟩ = some (.slice A1 s.L.length c1) := (hb.cell (p := ⟨r, 1, none⟩) hrl).trans HY1.out
            by_cases hlt : k < s.L.length
            · obtain ⟨gl, rfl, hlc⟩ := HAl.out (by omega)
              obtain ⟨cur, hcur, hcs⟩ := HCu.out gl rfl
              have hwg := (HCl.out gl rfl).1
              have hkl : (k : Int) < (s.L.length : Int) := by omega
              have HBk := Lib.hid hb
              have HCur := Lib.hid hcur
              clear hb hcur HCu
              go_wp2_with fail
              refine (up_any g b s wr (HGB.out _ HBk.out) k).mono ?_
              rintro e w' ⟨rfl, rfl⟩
              go_wp2_with fail
              refine (rup_any r s wr (HRB.out _ HBk.out) k).mono ?_
              rintro e v2 ⟨rfl, hv2⟩
              have HV2 := Lib.hid (HBk.out.trans (hv2.mono HBk.out.size))
              have HC2' := Lib.hid (HCur.out.below hv2)
              have hbne : (s.upI k != s.upI k) = false := bne_self_eq_false _
              obtain ⟨u0, hu0⟩ : ∃ u, cur[k * 3]? = some u := ⟨cur[k * 3]'(by omega), by rw [Array.getElem?_eq_getElem]⟩
              obtain ⟨u1, hu1⟩ : ∃ u, cur[k * 3 + 1]? = some u := ⟨cur[k * 3 + 1]'(by omega), by rw [Array.getElem?_eq_getElem]⟩
              obtain ⟨u2, hu2⟩ : ∃ u, cur[k * 3 + 2]? = some u := ⟨cur[k * 3 + 2]'(by omega), by rw [Array.getElem?_eq_getElem]⟩
              have e0 : v2.cell? ⟨gl, k * 3, none⟩ = some u0 := by rw [HC2'.out.cell, hu0]
              have e1 : v2.cell? ⟨gl, k * 3 + 1, none⟩ = some u1 := by rw [HC2'.out.cell, hu1]
              have e2 : v2.cell? ⟨gl, k * 3 + 2, none⟩ = some u2 := by rw [HC2'.out.cell, hu2]
              have f0 := HC2'.out.free (k * 3)
              have f1 := HC2'.out.free (k * 3 + 1)
              have f2 := HC2'.out.free (k * 3 + 2)
              clear hv2 hu0 hu1 hu2 y1
              go_wp2_with fail
              refine ⟨⟨k + 1, by omega, by go_num, ((HV2.out.setCell (p := ⟨gl, k * 3, none⟩) hwg _).setCell (p := ⟨gl, k * 3 + 1, none⟩) hwg _).setCell (p := ⟨gl, k * 3 + 2, none⟩) hwg _, Lib.hid (fun gl2 e => ?_)⟩, by simp [intOf]; omega⟩
              injection e with e
              injection e with e _ _
              subst e
              exact ⟨_, ((HC2'.out.set_ (k * 3) _).set_ (k * 3 + 1) _).set_ (k * 3 + 2) _, by simpa using hcs⟩
            · obtain rfl : k = s.L.length := by omega
              have HBk := Lib.hid hb
              have HUm : Hid (s.upI (-1) = false) := Lib.hid (by unfold GS.upI; simp)
              have HUn : Hid (s.upI (s.L.length : Int) = false) := Lib.hid (by
                rw [upI_nat]; unfold GS.up; rw [List.getElem?_eq_none (Nat.le_refl _)])
              clear hb HCu
              go_wp2_with fail
              refine (up_any g b s wr (HGB.out _ HBk.out) (-1)).mono ?_
              rintro e w' ⟨rfl, rfl⟩
              rw [HUm.out]
              go_wp2_with fail
              refine (up_any g b s wr (HGB.out _ HBk.out) _).mono ?_
              rintro e w' ⟨rfl, rfl⟩
              rw [HUn.out]
              go_wp2_with fail
              go_ret
              exact ⟨rfl, HBk.out⟩

end Go.Proofs.Ytfmjcjkifjndgaa
