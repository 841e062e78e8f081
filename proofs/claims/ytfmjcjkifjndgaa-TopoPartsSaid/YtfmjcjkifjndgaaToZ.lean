/- Graphs: TopoParts' walk. -/
import Derived.Test.YtfmjcjkifjndgaaToW
import Derived.BigQuiet
namespace Go.Proofs.Ytfmjcjkifjndgaa
open Go.RowKit
set_option linter.unusedVariables false
set_option linter.unusedSimpArgs false
set_option maxRecDepth 100000

theorem cN_succ (F : Nat → Bool) (k : Nat) : cN F (k + 1) = cN F k + (if F k = true then 1 else 0) := by
  unfold cN
  rw [List.range_succ, List.filter_append, List.length_append]
  congr 1
  by_cases h : F k = true
  · simp [h]
  · simp [h]
theorem cN_le (F : Nat → Bool) (k : Nat) : cN F k ≤ k := by
  unfold cN
  exact Nat.le_trans (List.length_filter_le _ _) (by simp)
theorem take_sum (l : List (List Nat)) (k : Nat) (r : List Nat) (h : l[k]? = some r) : ((l.take (k + 1)).map List.length).sum = ((l.take k).map List.length).sum + r.length := by
  rw [List.take_add_one, h, Option.toList_some, List.map_append, List.sum_append]
  simp
theorem alive_nat {s : GS} {m : Nat} : s.alive (m : Int) = s.al m := by simp [GS.alive]

set_option maxHeartbeats 8000000 in
theorem partsLaw_any (x : SA) (w : World) (H : x.at_ w) :
    Calls Try.prog 7 #[x.v] w (Says w true) := by
  have HB := Lib.hid (alloc_below w (.cells (sacs x) 69))
  have hn := Has.new w 69 (sacs x)
  have HN := Lib.hid hn
  have H1 := Lib.hid (SA.below H HB.out)
  have hlen := H.l.len
  have HLen := Lib.hid hlen
  clear H hn hlen
  go_enter Try.func7, Try.ntmps7
  go_upto_region 1 with fail
  generalize w.alloc (.cells (sacs x) 69) = W1 at *
  go_wp2_with fail
  refine (known_any W1).mono ?_
  rintro e W2 ⟨rfl, hb2⟩
  have HB2 := Lib.hid (HB.out.trans (hb2.mono HB.out.size))
  have H2 := Lib.hid (SA.below H1.out hb2)
  have hn2 := HN.out.below hb2
  have y0 : W2.cell? ⟨w.heap.size, 0, none⟩ = some (.int .i64 x.N) := hn2.cell 0
  have y1 : W2.cell? ⟨w.heap.size, 1, none⟩ = some (.slice x.A1 x.n1 x.c1) := hn2.cell 1
  have y2 : W2.cell? ⟨w.heap.size, 2, none⟩ = some (.slice x.A2 x.n2 x.c2) := hn2.cell 2
  have y3 : W2.cell? ⟨w.heap.size, 3, none⟩ = some (.slice x.A3 x.n3 x.c3) := hn2.cell 3
  have HN2 := Lib.hid hn2
  clear hb2 hn2
  go_wp2_with fail
  cases hmk : mkG x with
  | none =>
    refine (made_no x W2 H2.out hmk).mono ?_
    rintro e W3 ⟨rfl, hb3⟩
    have HB3 := Lib.hid (HB2.out.trans (hb3.mono HB2.out.size))
    clear hb3
    go_wp2_with fail
    go_ret
    exact ⟨rfl, HB3.out⟩
  | some s =>
    refine (made_yes x s W2 H2.out hmk).mono ?_
    rintro e W3 ⟨g, b, rfl, hG3, hg, hb, hb3⟩
    have hsome := mkG_some hmk
    have h60 := hsome.1
    obtain ⟨hsL, _⟩ := mkG_L hmk
    obtain ⟨hsN, _⟩ := mkG_al hmk
    obtain ⟨N, hN⟩ : ∃ N : Nat, x.N = N := ⟨x.N.toNat, by have := (valE_ok hsome.2.2.2.1).1; omega⟩
    have hNt : x.N.toNat = N := by rw [hN]; simp
    rw [hNt] at hsN
    have HOK := Lib.hid hG3.ok
    have hN32 : N ≤ 32 := by rw [← hsN]; exact HOK.out.n32
    have HB3 := Lib.hid (HB2.out.trans (hb3.mono HB2.out.size))
    have H3 := Lib.hid (SA.below H2.out hb3)
    have HN3 := Lib.hid (HN2.out.below hb3)
    have HG3 := Lib.hid hG3
    have HSL := Lib.hid hsL
    have HSN := Lib.hid hsN
    rw [← HLen.out] at h60
    obtain ⟨hc1, hc2⟩ := comps_small HOK.out
    have HC2 := Lib.hid hc2
    have HMany := Lib.hid (many_all HOK.out)
    obtain ⟨p, hp⟩ : ∃ p, s.comps.length = p := ⟨_, rfl⟩
    rw [hp] at hc1
    have HP := Lib.hid hp
    rw [hN]
    clear hb3 hG3 y0 y1 y2 y3 hmk hsL hsN hsome hc2 hp hNt
    go_wp2_with fail
    refine (comps_any g b s W3 HG3.out).mono ?_
    rintro e W4 ⟨A1, c1, rfl, ⟨R, hR1, hR2, hR3, hR4, hR5⟩, hB⟩
    have HR1 := Lib.hid hR1
    have HR2 := Lib.hid hR2
    have HR3 := Lib.hid hR3
    have HR4 := Lib.hid hR4
    have HB4 := Lib.hid (HB3.out.trans (hB.mono HB3.out.size))
    have HG4 := Lib.hid (HG3.out.below hB)
    have HX4 := Lib.hid (SA.below H3.out hB)
    have hn4 := HN3.out.below hB
    have hwl : w.heap.size < W4.heap.size := hn4.lt
    have hy0 : W4.cell? ⟨w.heap.size, 0, none⟩ = some (.int .i64 (N : Int)) := by rw [← hN]; exact hn4.cell 0
    have hy1 : W4.cell? ⟨w.heap.size, 1, none⟩ = some (.slice x.A1 x.n1 x.c1) := hn4.cell 1
    have HY0 := Lib.hid hy0
    have HY1 := Lib.hid hy1
    rw [HP.out]
    clear hR1 hR2 hR3 hR4 hR5 hB hn4 HG3 H3 HN3 HN2 HN H2 H1 hy0 hy1
    go_wp2_with fail
    go_loopw [6, 7] (fun m i wr => ∃ k t : Nat, k ≤ p ∧ i = .int .i64 k ∧ m = .int .i64 t ∧ Hid (t = ((s.comps.take k).map List.length).sum) ∧ t ≤ 32 * k ∧ Below W4.heap.size W4 wr) (fun _ i _ => p - (intOf i).toNat)
    case atStart => exact ⟨0, 0, Nat.zero_le _, rfl, rfl, Lib.hid (by simp), by omega, Below.refl _ _⟩
    case round =>
      obtain ⟨k, t, hk, rfl, rfl, HT, ht, hb⟩ := hrel
      by_cases hlt : k < p
      · have hkR : k < R.length := by rw [HR2.out, HP.out]; exact hlt
        obtain ⟨r, hr⟩ : ∃ r, R[k]? = some r := ⟨R[k], by rw [List.getElem?_eq_getElem hkR]⟩
        obtain ⟨rh, rc, rl⟩ := r
        have hrow := (HR4.out _ (List.mem_of_getElem? hr)).2
        have hlk : s.comps[k]? = some rl := by rw [← HR1.out, List.getElem?_map, hr]; rfl
        have hrl : rl.length ≤ 32 := HC2.out _ (List.mem_of_getElem? hlk)
        have HMem := Lib.hid (List.mem_of_getElem? hlk)
        obtain ⟨g1, hA1, hg1, hcell⟩ : ∃ g1, A1 = some ⟨g1, 0, none⟩ ∧ g1 < W4.heap.size ∧ W4.cell? ⟨g1, k, none⟩ = some (.slice (some ⟨rh, 0, none⟩) rl.length rc) := by
          rcases HR3.out.2 with ⟨_, h6⟩ | ⟨g1, cap, cur, hv, hbb, hh, hc, _⟩
          · rw [← HR2.out] at h6; omega
          · injection hv with hv _ _
            refine ⟨g1, hv, Has.lt (show Has W4 g1 58 cur from hh), ?_⟩
            have := HR3.out.cells (g := g1) (by rw [hv]; rfl) k (.slice (some ⟨rh, 0, none⟩) rl.length rc) (by rw [List.getElem?_map, hr]; rfl)
            rw [add_plain, Nat.zero_add] at this
            exact this
        subst hA1
        obtain ⟨q, hq⟩ : ∃ q, rl.length = q := ⟨_, rfl⟩
        have HTS : Hid (t + q = ((s.comps.take (k + 1)).map List.length).sum) := Lib.hid (by rw [take_sum _ _ _ hlk, ← HT.out, hq])
        rw [hq] at hcell hrl
        have HQ := Lib.hid hq
        have HRow := Lib.hid hrow
        have HCell := Lib.hid hcell
        have q0 : wr.cell? ⟨g1, k, none⟩ = some (.slice (some ⟨rh, 0, none⟩) q rc) := (hb.cell (p := ⟨g1, k, none⟩) hg1).trans hcell
        have hqc : q ≤ rc := by rw [← hq]; obtain ⟨_, _, _, _, h9, _⟩ := hrow; exact h9
        have hkl : (k : Int) < (p : Int) := by omega
        have HB := Lib.hid hb
        clear hr hrow hlk hcell hq hkR hb HT
        go_wp2_with fail
        have HBo : Hid (Below W4.heap.size W4 wr) := HB
        clear HB q0
        obtain ⟨wo, rfl⟩ : ∃ wo : World, wo = wr := ⟨_, rfl⟩
        go_loopw [8] (fun v wr => ∃ j : Nat, j ≤ q ∧ v = .int .i64 j ∧ Below W4.heap.size W4 wr) (fun v _ => q - (intOf v).toNat)
        case atStart => exact ⟨0, Nat.zero_le _, rfl, HBo.out⟩
        case round =>
          obtain ⟨j, hj, rfl, hb⟩ := hrel
          have q0 : wr.cell? ⟨g1, k, none⟩ = some (.slice (some ⟨rh, 0, none⟩) q rc) := (hb.cell (p := ⟨g1, k, none⟩) hg1).trans HCell.out
          have HB := Lib.hid hb
          by_cases hjq : j < q
          · have hjr : j < rl.length := by rw [HQ.out]; exact hjq
            obtain ⟨m, hm⟩ : ∃ m, rl[j]? = some m := ⟨rl[j], by rw [List.getElem?_eq_getElem hjr]⟩
            have hrow := HRow.out.below hb
            have q1 : wr.cell? ⟨rh, j, none⟩ = some (.int .i64 (m : Int)) := hrow.at_ hm
            obtain ⟨hal, hcm⟩ := comps_mem HOK.out HMem.out (List.mem_of_getElem? hm)
            have HAl : Hid (s.alive (m : Int) = true) := Lib.hid (by rw [alive_nat]; exact hal)
            have HCm : Hid (s.compI (m : Int) = rl) := Lib.hid (by rw [compI_nat]; exact hcm)
            have hjl : (j : Int) < (q : Int) := by omega
            have hG := HG4.out.below hb
            have hd0 : Below wr.heap.size wr wr.drew := below_drewN (Below.refl _ _) 1
            have HGd := Lib.hid (hG.below hd0)
            have HSq := Lib.hid hrow.sq
            have HS : Hid (∀ W', Below wr.heap.size wr W' → (W'.cell? ⟨g1, k, none⟩ = some (.slice (some ⟨rh, 0, none⟩) q rc) ∧ W'.cell? ⟨rh, j, none⟩ = some (.int .i64 (m : Int))) ∧ Below wr.heap.size wr W') := Lib.hid (fun W' h => ⟨⟨(h.cell (p := ⟨g1, k, none⟩) (World.block_lt_of_cell? _ _ q0)).trans q0, (h.cell (p := ⟨rh, j, none⟩) (World.block_lt_of_cell? _ _ q1)).trans q1⟩, h⟩)
            clear hrow hal hcm hG hm hjr hb
            go_wp2_with fail
            go_region_held3 (fun w' => (w'.cell? ⟨g1, k, none⟩ = some (.slice (some ⟨rh, 0, none⟩) q rc) ∧ w'.cell? ⟨rh, j, none⟩ = some (.int .i64 (m : Int))) ∧ Below wr.heap.size wr w')
              (first | exact HS.out _ hd0 | exact HS.out _ (hd0.trans (hb8.mono (Nat.le_refl _))) | exact HS.out _ ((hd0.trans (hb8.mono (Nat.le_refl _))).trans (hb9.mono hb8.size)))
              (first
                | (go_at_call 23; refine (alive_any g b s _ HGd.out m).mono ?_; rintro e w' ⟨rfl, rfl⟩; rw [HAl.out])
                | (go_at_call 30; refine (comp_any g b s _ HGd.out m).mono ?_; rintro e w8 ⟨A8, c8, rfl, ho8, hb8⟩; rw [HCm.out, HQ.out] at ho8; rw [HCm.out, HQ.out])
                | (go_at_call 33
                   have s8 := Sq.own ho8
                   have s9 := (HSq.out.below hd0).below hb8
                   rw [natv_ints] at s8 s9
                   rw [HQ.out] at s9
                   refine (same_ints s8 s9 (by omega)).mono ?_
                   rintro e w9 ⟨rfl, hb9⟩))
            have HB9 : Hid (Below W4.heap.size W4 w9) := Lib.hid (HB.out.trans (((hd0.trans (hb8.mono (Nat.le_refl _))).trans (hb9.mono hb8.size)).mono HB.out.size))
            clear hd0 hb8 hb9 ho8 s8 s9
            go_wp2_with fail
            go_roundw
            case rel => exact ⟨j + 1, by omega, by go_num, HB9.out⟩
            case measure => simp [intOf]; omega
          · obtain rfl : j = q := by omega
            clear hb
            go_wp2_with fail
            go_roundw
            case rel => exact ⟨k + 1, t + j, by omega, by go_num, rfl, HTS, by omega, HB.out⟩
            case measure => simp [intOf]; omega
      · obtain rfl : k = p := by omega
        have HTot : Hid (t = cN s.al N) := Lib.hid (by
          rw [HT.out, List.take_of_length_le (by rw [HP.out]; exact Nat.le_refl _), HMany.out, HSN.out])
        have ht2 : t ≤ 2000 := by omega
        have HB := Lib.hid hb
        have q0 : wr.cell? ⟨w.heap.size, 0, none⟩ = some (.int .i64 (N : Int)) := (hb.cell (p := ⟨w.heap.size, 0, none⟩) hwl).trans HY0.out
        clear hb HT
        go_wp2_with fail
        clear q0
        obtain ⟨wo, rfl⟩ : ∃ wo : World, wo = wr := ⟨_, rfl⟩
        go_loopw [9, 10] (fun m i wr => ∃ j : Nat, j ≤ N ∧ i = .int .i64 j ∧ m = .int .i64 (cN s.al j : Nat) ∧ Below W4.heap.size W4 wr) (fun _ i _ => N - (intOf i).toNat)
        case atStart => exact ⟨0, Nat.zero_le _, rfl, rfl, HB.out⟩
        case round =>
          obtain ⟨j, hj, rfl, rfl, hb⟩ := hrel
          have q0 : wr.cell? ⟨w.heap.size, 0, none⟩ = some (.int .i64 (N : Int)) := (hb.cell (p := ⟨w.heap.size, 0, none⟩) hwl).trans HY0.out
          have HB := Lib.hid hb
          have hcn := cN_le s.al j
          by_cases hjN : j < N
          · have hjl : (j : Int) < (N : Int) := by omega
            have HG := Lib.hid (HG4.out.below hb)
            have HSc := Lib.hid (cN_succ s.al j)
            clear hb
            go_wp2_with fail
            refine (alive_any g b s wr HG.out j).mono ?_
            rintro e w' ⟨rfl, rfl⟩
            rw [alive_nat]
            by_cases hal : s.al j = true
            · rw [hal]
              have hc1 : cN s.al (j + 1) = cN s.al j + 1 := by rw [HSc.out, if_pos hal]
              clear hal
              go_wp2_with fail
              go_roundw
              case rel => exact ⟨j + 1, by omega, by go_num, by rw [hc1]; rfl, HB.out⟩
              case measure => simp [intOf]; omega
            · rw [Bool.not_eq_true] at hal
              rw [hal]
              have hc1 : cN s.al (j + 1) = cN s.al j := by rw [HSc.out, if_neg (by simp [hal])]; rfl
              clear hal
              go_wp2_with fail
              go_roundw
              case rel => exact ⟨j + 1, by omega, by go_num, by rw [hc1], HB.out⟩
              case measure => simp [intOf]; omega
          · obtain rfl : j = N := by omega
            rw [← HTot.out]
            rw [← HTot.out] at hcn
            clear hb
            go_wp2_with fail
            clear q0
            obtain ⟨wo, rfl⟩ : ∃ wo : World, wo = wr := ⟨_, rfl⟩
            go_loopw [11] (fun i wr => ∃ k : Nat, k ≤ x.n1 ∧ i = .int .i64 k ∧ Below W4.heap.size W4 wr) (fun i _ => x.n1 - (intOf i).toNat)
            case atStart => exact ⟨0, Nat.zero_le _, rfl, HB.out⟩
            case round =>
              obtain ⟨k, hk, rfl, hb⟩ := hrel
              have q0 : wr.cell? ⟨w.heap.size, 1, none⟩ = some (.slice x.A1 x.n1 x.c1) := (hb.cell (p := ⟨w.heap.size, 1, none⟩) hwl).trans HY1.out
              have HB := Lib.hid hb
              by_cases hkn : k < x.n1
              · have hkl : (k : Int) < (x.n1 : Int) := by omega
                have hlk := HX4.out.l.below hb
                obtain ⟨bb, oo, hA1, hbb⟩ := hlk.plain (by omega)
                have hcap := hlk.cap
                obtain ⟨y, hy⟩ : ∃ y, x.L[k]? = some y := ⟨x.L[k]'(by rw [← HLen.out]; exact hkn), by rw [List.getElem?_eq_getElem]⟩
                rw [hA1] at hlk q0
                obtain ⟨l0, l1, l2⟩ := hlk.at_ hy
                have hys : s.L[k]? = some y := by rw [HSL.out]; exact hy
                have HYs := Lib.hid hys
                have HC : Hid (∀ V : World, Below W4.heap.size W4 V → V.cell? ⟨w.heap.size, 1, none⟩ = some (.slice (some ⟨bb, oo, none⟩) x.n1 x.c1) ∧ V.cell? ⟨bb, oo + k * 3, none⟩ = some (.int .i64 y.a) ∧ V.cell? ⟨bb, oo + k * 3 + 1, none⟩ = some (.int .i64 y.b) ∧ V.cell? ⟨bb, oo + k * 3 + 2, none⟩ = some (.int .i64 y.c)) := Lib.hid (fun V hV => by
                  have h1 := HX4.out.l.below hV
                  rw [hA1] at h1
                  exact ⟨by rw [← hA1]; exact (hV.cell (p := ⟨w.heap.size, 1, none⟩) hwl).trans HY1.out, h1.at_ hy⟩)
                obtain ⟨u, hu⟩ : ∃ u, s.up k = u := ⟨_, rfl⟩
                have HU := Lib.hid hu
                have hM : s.L.length ≤ 128 := HOK.out.m128
                have HE1 : Hid (decide ((⟨(k : Int), y.b, y.c⟩ : ED) ∈ s.neigh y.a) = u) := Lib.hid (by
                  have h := (up_edge HOK.out hys).1
                  rw [hu] at h
                  cases u <;> simp_all)
                have HE2 : Hid (decide ((⟨(k : Int), y.a, y.c⟩ : ED) ∈ s.neigh y.b) = u) := Lib.hid (by
                  have h := (up_edge HOK.out hys).2
                  rw [hu] at h
                  cases u <;> simp_all)
                have hn1 : (s.neigh y.a).length ≤ 128 := Nat.le_trans (nbr_len _ _ _) hM
                have hn2 : (s.neigh y.b).length ≤ 128 := Nat.le_trans (nbr_len _ _ _) hM
                have hbn : (u != u) = false := bne_self_eq_false u
                clear hlk hy hys hu hb hM hA1
                go_wp2_with fail
                go_quiet (fail)
                have hdn : Below W4.heap.size W4 (wr.drewN nq) := below_drewN HB.out nq
                obtain ⟨V, hV⟩ : ∃ V, wr.drewN nq = V := ⟨_, rfl⟩
                rw [hV] at hdn ⊢
                have HBV := Lib.hid hdn
                have HGV := Lib.hid (HG4.out.below hdn)
                clear hdn hV l0 l1 l2 q0
                go_wp2_with fail
                refine (up_any g b s V HGV.out k).mono ?_
                rintro e w' ⟨rfl, rfl⟩
                rw [upI_nat, HU.out]
                cases u with
                | false =>
                  go_wp2_with fail
                  obtain ⟨z0, _, _, z3⟩ := HC.out V HBV.out
                  have hd0 : Below V.heap.size V V.drew := below_drewN (Below.refl _ _) 1
                  have HGB : Hid (∀ W', Below V.heap.size V W' → Gr W' g b s) := Lib.hid (fun W' h => HG4.out.below (HBV.out.trans (h.mono HBV.out.size)))
                  have HS : Hid (∀ W', Below V.heap.size V W' → (W'.cell? ⟨w.heap.size, 1, none⟩ = some (.slice (some ⟨bb, oo, none⟩) x.n1 x.c1) ∧ W'.cell? ⟨bb, oo + k * 3 + 2, none⟩ = some (.int .i64 y.c)) ∧ Below V.heap.size V W') := Lib.hid (fun W' h => by
                    obtain ⟨z0, _, _, z3⟩ := HC.out W' (HBV.out.trans (h.mono HBV.out.size))
                    exact ⟨⟨z0, z3⟩, h⟩)
                  have tok : True := trivial
                  have tok2 : True := trivial
                  go_region_held3 (fun w' => (w'.cell? ⟨w.heap.size, 1, none⟩ = some (.slice (some ⟨bb, oo, none⟩) x.n1 x.c1) ∧ w'.cell? ⟨bb, oo + k * 3 + 2, none⟩ = some (.int .i64 y.c)) ∧ Below V.heap.size V w')
                    (first | exact HS.out _ (by assumption) | go_keep)
                    (first
                      | (go_at_call 24; refine (up_any g b s _ (HGB.out _ (by assumption)) k).mono ?_; rintro e w' ⟨rfl, rfl⟩; rw [upI_nat, HU.out])
                      | (go_at_call 28
                         have t1 := tok
                         refine (neigh_any g b s _ (HGB.out _ hd0) y.a).mono ?_
                         rintro e w6 ⟨A6, c6, rfl, ho6, hb6⟩
                         have hb6' := hd0.trans (hb6.mono (Nat.le_refl _))
                         clear tok t1)
                      | (go_at_call 28
                         refine (neigh_any g b s _ (HGB.out _ hb7') y.b).mono ?_
                         rintro e w8 ⟨A8, c8, rfl, ho8, hb8⟩
                         have hb8' := hb7'.trans (hb8.mono hb7'.size))
                      | (go_at_call 38
                         have t1 := tok2
                         refine (edgeB_any A6 _ c6 (s.neigh y.a) ⟨k, y.b, y.c⟩ w6 (Sq.own ho6) (by omega)).mono ?_
                         rintro e w7 ⟨rfl, hb7⟩
                         have hb7' := hb6'.trans (hb7.mono hb6'.size)
                         rw [HE1.out]
                         clear tok2 t1)
                      | (go_at_call 38
                         refine (edgeB_any A8 _ c8 (s.neigh y.b) ⟨k, y.a, y.c⟩ w8 (Sq.own ho8) (by omega)).mono ?_
                         rintro e w9 ⟨rfl, hb9⟩
                         have hb9' := hb8'.trans (hb9.mono hb8'.size)
                         rw [HE2.out]))
                  have HB9 : Hid (Below W4.heap.size W4 w9) := Lib.hid (HBV.out.trans (hb9'.mono HBV.out.size))
                  clear hd0 hb6 hb6' hb7 hb7' hb8 hb8' hb9 hb9' ho6 ho8
                  go_wp2_with fail
                  go_roundw
                  case rel => exact ⟨k + 1, by omega, by go_num, HB9.out⟩
                  case measure => simp [intOf]; omega
                | true =>
                  obtain ⟨hs1, hs2, hs3⟩ := up_seen HOK.out HYs.out HU.out
                  have hyb : 0 ≤ y.a ∧ 0 ≤ y.b := by
                    obtain ⟨a0, _, b0, _⟩ := fine_at HOK.out HYs.out
                    exact ⟨by omega, by omega⟩
                  have HM1 : Hid (decide (y.b ∈ (s.compI y.a).map (fun (z : Nat) => (z : Int))) = true) := Lib.hid (by
                    simp only [decide_eq_true_eq, List.mem_map]
                    exact ⟨y.b.toNat, by unfold GS.compI; rw [if_pos hyb.1]; exact hs1, by omega⟩)
                  have HM2 : Hid (decide ((k : Int) ∈ s.btw y.a y.b) = true) := Lib.hid (by simpa using hs2)
                  have HM3 : Hid (decide ((k : Int) ∈ s.btw y.b y.a) = true) := Lib.hid (by simpa using hs3)
                  have hl1 : (s.compI y.a).length ≤ 32 := by unfold GS.compI; rw [if_pos hyb.1]; exact Nat.le_trans (comp_len _ _) HOK.out.n32
                  have hl2 : (s.btw y.a y.b).length ≤ 128 := by unfold GS.btw btwOf; rw [List.length_map]; exact Nat.le_trans (List.length_filter_le _ _) hn1
                  have hl3 : (s.btw y.b y.a).length ≤ 128 := by unfold GS.btw btwOf; rw [List.length_map]; exact Nat.le_trans (List.length_filter_le _ _) hn2
                  clear hs1 hs2 hs3 hyb
                  go_wp2_with fail
                  refine (comp_any g b s V HGV.out y.a).mono ?_
                  rintro e V1 ⟨A5, c5, rfl, ho5, hb5⟩
                  have s5 := Sq.own ho5
                  rw [natv_ints] at s5
                  have HS5 := Lib.hid s5
                  have HBV1 := Lib.hid (HBV.out.trans (hb5.mono HBV.out.size))
                  have HGV1 := Lib.hid (HGV.out.below hb5)
                  clear ho5 hb5 s5
                  go_wp2_with fail
                  refine (hasB_any _ _ _ _ y.b V1 HS5.out (by omega)).mono ?_
                  rintro e w' ⟨rfl, rfl⟩
                  rw [HM1.out]
                  go_wp2_with fail
                  refine (btw_any g b s V1 HGV1.out y.a y.b).mono ?_
                  rintro e V2 ⟨A6, c6, rfl, ho6, hb6⟩
                  have HS6 := Lib.hid (Sq.own ho6)
                  have HBV2 := Lib.hid (HBV1.out.trans (hb6.mono HBV1.out.size))
                  have HGV2 := Lib.hid (HGV1.out.below hb6)
                  clear ho6 hb6
                  go_wp2_with fail
                  refine (hasB_any _ _ _ _ k V2 HS6.out (by omega)).mono ?_
                  rintro e w' ⟨rfl, rfl⟩
                  rw [HM2.out]
                  go_wp2_with fail
                  refine (btw_any g b s V2 HGV2.out y.b y.a).mono ?_
                  rintro e V3 ⟨A7, c7, rfl, ho7, hb7⟩
                  have HS7 := Lib.hid (Sq.own ho7)
                  have HBV3 := Lib.hid (HBV2.out.trans (hb7.mono HBV2.out.size))
                  clear ho7 hb7
                  go_wp2_with fail
                  refine (hasB_any _ _ _ _ k V3 HS7.out (by omega)).mono ?_
                  rintro e w' ⟨rfl, rfl⟩
                  rw [HM3.out]
                  go_wp2_with fail
                  obtain ⟨z0, _, _, z3⟩ := HC.out V3 HBV3.out
                  have hd0 : Below V3.heap.size V3 V3.drew := below_drewN (Below.refl _ _) 1
                  have HGB : Hid (∀ W', Below V3.heap.size V3 W' → Gr W' g b s) := Lib.hid (fun W' h => HG4.out.below (HBV3.out.trans (h.mono HBV3.out.size)))
                  have HS : Hid (∀ W', Below V3.heap.size V3 W' → (W'.cell? ⟨w.heap.size, 1, none⟩ = some (.slice (some ⟨bb, oo, none⟩) x.n1 x.c1) ∧ W'.cell? ⟨bb, oo + k * 3 + 2, none⟩ = some (.int .i64 y.c)) ∧ Below V3.heap.size V3 W') := Lib.hid (fun W' h => by
                    obtain ⟨z0, _, _, z3⟩ := HC.out W' (HBV3.out.trans (h.mono HBV3.out.size))
                    exact ⟨⟨z0, z3⟩, h⟩)
                  have tok : True := trivial
                  have tok2 : True := trivial
                  go_region_held3 (fun w' => (w'.cell? ⟨w.heap.size, 1, none⟩ = some (.slice (some ⟨bb, oo, none⟩) x.n1 x.c1) ∧ w'.cell? ⟨bb, oo + k * 3 + 2, none⟩ = some (.int .i64 y.c)) ∧ Below V3.heap.size V3 w')
                    (first | exact HS.out _ (by assumption) | go_keep)
                    (first
                      | (go_at_call 24; refine (up_any g b s _ (HGB.out _ (by assumption)) k).mono ?_; rintro e w' ⟨rfl, rfl⟩; rw [upI_nat, HU.out])
                      | (go_at_call 28
                         have t1 := tok
                         refine (neigh_any g b s _ (HGB.out _ hd0) y.a).mono ?_
                         rintro e w6 ⟨A6, c6, rfl, ho6, hb6⟩
                         have hb6' := hd0.trans (hb6.mono (Nat.le_refl _))
                         clear tok t1)
                      | (go_at_call 28
                         refine (neigh_any g b s _ (HGB.out _ hb7') y.b).mono ?_
                         rintro e w8 ⟨A8, c8, rfl, ho8, hb8⟩
                         have hb8' := hb7'.trans (hb8.mono hb7'.size))
                      | (go_at_call 38
                         have t1 := tok2
                         refine (edgeB_any A6 _ c6 (s.neigh y.a) ⟨k, y.b, y.c⟩ w6 (Sq.own ho6) (by omega)).mono ?_
                         rintro e w7 ⟨rfl, hb7⟩
                         have hb7' := hb6'.trans (hb7.mono hb6'.size)
                         rw [HE1.out]
                         clear tok2 t1)
                      | (go_at_call 38
                         refine (edgeB_any A8 _ c8 (s.neigh y.b) ⟨k, y.a, y.c⟩ w8 (Sq.own ho8) (by omega)).mono ?_
                         rintro e w9 ⟨rfl, hb9⟩
                         have hb9' := hb8'.trans (hb9.mono hb8'.size)
                         rw [HE2.out]))
                  have HB9 : Hid (Below W4.heap.size W4 w9) := Lib.hid (HBV3.out.trans (hb9'.mono HBV3.out.size))
                  clear hd0 hb6 hb6' hb7 hb7' hb8 hb8' hb9 hb9' ho6 ho8
                  go_wp2_with fail
                  go_roundw
                  case rel => exact ⟨k + 1, by omega, by go_num, HB9.out⟩
                  case measure => simp [intOf]; omega
              · obtain rfl : k = x.n1 := by omega
                have hte : ((t : Int) == (t : Int)) = true := by simp
                clear hb
                go_wp2_with fail
                go_ret
                exact ⟨rfl, HB4.out.trans (HB.out.mono HB4.out.size)⟩

end Go.Proofs.Ytfmjcjkifjndgaa
