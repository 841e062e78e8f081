/- Graphs: TopoCuts' walk. -/
import Derived.Test.YtfmjcjkifjndgaaToT
import Derived.Test.YtfmjcjkifjndgaaToU
namespace Go.Proofs.Ytfmjcjkifjndgaa
open Go.RowKit
set_option linter.unusedVariables false
set_option linter.unusedSimpArgs false
set_option maxRecDepth 100000

theorem pick_eq (i n : Int) (hn : 0 < n) : (if i.tmod n < 0 then i.tmod n + n else i.tmod n) = i % n := by
  have h1 := Int.emod_nonneg i (show n ≠ 0 by omega)
  have h2 := Int.emod_lt_of_pos i hn
  have h3 := Int.tmod_eq_emod (a := i) (b := n)
  rw [h3]
  have h4 : (n.natAbs : Int) = n := by omega
  by_cases hc : 0 ≤ i ∨ n ∣ i
  · rw [if_pos hc, if_neg (by omega)]
    omega
  · rw [if_neg hc, h4, if_pos (by omega)]
    omega

theorem tmod_bd (i n : Int) (hn : 0 < n) : -n < i.tmod n ∧ i.tmod n < n := by
  have h1 := Int.emod_nonneg i (show n ≠ 0 by omega)
  have h2 := Int.emod_lt_of_pos i hn
  rw [Int.tmod_eq_emod]
  have h4 : (n.natAbs : Int) = n := by omega
  by_cases hc : 0 ≤ i ∨ n ∣ i
  · rw [if_pos hc]; omega
  · rw [if_neg hc, h4]
    have h5 : i % n ≠ 0 := fun h => hc (.inr (Int.dvd_of_emod_eq_zero h))
    omega

theorem pick_any (i n : Int) (hn : 0 < n) (hn2 : n ≤ 1000000000) (w : World) :
    Calls Try.prog 16 #[.int .i64 i, .int .i64 n] w fun e w' => e = .returned (.int .i64 (i % n)) ∧ w = w' := by
  have hp := pick_eq i n hn
  have hb := tmod_bd i n hn
  obtain ⟨b0, b1⟩ := hb
  have hn0 : (n == 0) = false := by simp; omega
  by_cases hc : i.tmod n < 0
  · rw [if_pos hc] at hp
    have HP := Lib.hid hp
    clear hp
    go_enter Try.func16, Try.ntmps16
    go_wp2
    go_ret
    exact ⟨by rw [← HP.out]; rfl, rfl⟩
  · rw [if_neg hc] at hp
    have HP := Lib.hid hp
    have hc0 : 0 ≤ i.tmod n := by omega
    clear hp hc
    go_enter Try.func16, Try.ntmps16
    go_wp2
    go_ret
    exact ⟨by rw [← HP.out]; rfl, rfl⟩


theorem setNode_li (s : GS) (n : Int) (u : Bool) : (setNode s n u).2.li = s.li ∧ (setNode s n u).2.L = s.L ∧ (setNode s n u).2.N = s.N := by
  unfold setNode; split <;> exact ⟨rfl, rfl, rfl⟩
theorem setLink_al (s : GS) (n : Int) (u : Bool) : (setLink s n u).2.al = s.al ∧ (setLink s n u).2.L = s.L ∧ (setLink s n u).2.N = s.N := by
  unfold setLink; split <;> exact ⟨rfl, rfl, rfl⟩
theorem dnN_keeps (l : List Int) (s : GS) : (dnN s l).li = s.li ∧ (dnN s l).L = s.L ∧ (dnN s l).N = s.N := by
  induction l generalizing s with
  | nil => exact ⟨rfl, rfl, rfl⟩
  | cons n l ih =>
    have h := ih (setNode s n false).2
    have h2 := setNode_li s n false
    exact ⟨h.1.trans h2.1, h.2.1.trans h2.2.1, h.2.2.trans h2.2.2⟩
theorem dnL_keeps (l : List Int) (s : GS) : (dnL s l).al = s.al ∧ (dnL s l).L = s.L ∧ (dnL s l).N = s.N := by
  induction l generalizing s with
  | nil => exact ⟨rfl, rfl, rfl⟩
  | cons n l ih =>
    have h := ih (setLink s n false).2
    have h2 := setLink_al s n false
    exact ⟨h.1.trans h2.1, h.2.1.trans h2.2.1, h.2.2.trans h2.2.2⟩
theorem dnL_at (l : List Int) (s : GS) (i : Nat) (hi : i < s.L.length) : (dnL s l).li i = (s.li i && !decide ((i : Int) ∈ l)) := by
  induction l generalizing s with
  | nil => simp [dnL]
  | cons n l ih =>
    show (dnL (setLink s n false).2 l).li i = _
    rw [ih _ (by rw [(setLink_al s n false).2.1]; exact hi)]
    unfold setLink
    by_cases hc : 0 ≤ n ∧ n < (s.L.length : Int)
    · rw [if_pos hc]
      show (put s.li n.toNat false i && _) = _
      by_cases e : i = n.toNat
      · have : (i : Int) = n := by omega
        rw [e, put_same]
        rw [← e]
        simp [this]
      · rw [put_other e]
        have : (i : Int) ≠ n := by omega
        simp [this]
    · rw [if_neg hc]
      have : (i : Int) ≠ n := by omega
      simp [this]
theorem mkG_some {x : SA} {s : GS} (h : mkG x = some s) : x.L.length ≤ 60 ∧ x.dn.length ≤ 60 ∧ x.dl.length ≤ 60 ∧ valE x.N x.L = 0 ∧ s = dnL (dnN (gs0 x.N.toNat x.L) x.dn) x.dl := by
  unfold mkG at h
  by_cases hc : 60 < x.L.length ∨ 60 < x.dn.length ∨ 60 < x.dl.length
  · rw [if_pos hc] at h; cases h
  · rw [if_neg hc] at h
    by_cases hv : valE x.N x.L = 0
    · rw [if_pos hv] at h
      injection h with h
      exact ⟨by omega, by omega, by omega, hv, h.symm⟩
    · rw [if_neg hv] at h; cases h
theorem mkG_L {x : SA} {s : GS} (h : mkG x = some s) : s.L = x.L ∧ (∀ i : Nat, i < x.L.length → s.li i = !decide ((i : Int) ∈ x.dl)) := by
  obtain ⟨_, _, _, _, rfl⟩ := mkG_some h
  refine ⟨((dnL_keeps _ _).2.1).trans (dnN_keeps _ _).2.1, fun i hi => ?_⟩
  rw [dnL_at _ _ _ (by rw [(dnN_keeps _ _).2.1]; exact hi), (dnN_keeps _ _).1]
  have : (gs0 x.N.toNat x.L).li i = true := by simp [gs0, fstF, hi]
  rw [this]; rfl
theorem set_back {s : GS} {i : Nat} (h : s.li i = true) : (s.setLi i false).setLi i true = s := by
  unfold GS.setLi
  simp only [put_put]
  rw [put_id h]
theorem flags_get (s : GS) {k : Nat} (hk : k < s.L.length) : (s.flags.map Value.bool)[k]? = some (.bool (s.up k)) := by
  simp [GS.flags, hk]
theorem flags_len (s : GS) : (s.flags.map Value.bool).length = s.L.length * 1 := by simp [GS.flags]
/-- The k-th flag, wherever the list lies. -/
theorem flag_cell {w : World} {A : Option Addr} {n c : Nat} {s : GS} (h : Sq w A n c 1 (s.flags.map Value.bool)) (hn : n = s.L.length) (h0 : 0 < n) : ∃ b o, A = some ⟨b, o, none⟩ ∧ b < w.heap.size ∧ ∀ k, k < n → w.cell? ⟨b, o + k, none⟩ = some (.bool (s.up k)) := by
  obtain ⟨b, o, e, hb, hc⟩ := h.cel h0
  exact ⟨b, o, e, hb, fun k hk => hc k _ (flags_get s (by omega))⟩

set_option maxHeartbeats 8000000 in
theorem cuts_any (x : SA) (link : Int) (w : World) (H : x.at_ w) :
    Calls Try.prog 8 #[x.v, .int .i64 link] w (Says w true) := by
  have HB := Lib.hid (alloc_below w (.cells (sacs x) 69))
  have hn := Has.new w 69 (sacs x)
  have HN := Lib.hid hn
  have H1 := Lib.hid (SA.below H HB.out)
  have hlen := H.l.len
  have HLen := Lib.hid hlen
  clear H hn hlen
  go_enter Try.func8, Try.ntmps8
  go_upto_region 1 with fail
  generalize w.alloc (.cells (sacs x) 69) = W1 at *
  go_wp2_with fail
  refine (known_any W1).mono ?_
  rintro e W2 ⟨rfl, hb2⟩
  have HB2 := Lib.hid (HB.out.trans (hb2.mono HB.out.size))
  have H2 := Lib.hid (SA.below H1.out hb2)
  have hn2 := HN.out.below hb2
  have y0 : W2.cell? ⟨w.heap.size, 0, none⟩ = some (.int .i64 x.N) := hn2.cell 0
  have y1 : W2.cell? ⟨w.heap.size, 1, none⟩ = some (.slice x.A1 x.n1 x.c1) := hn2.cell 1
  have y2 : W2.cell? ⟨w.heap.size, 2, none⟩ = some (.slice x.A2 x.n2 x.c2) := hn2.cell 2
  have y3 : W2.cell? ⟨w.heap.size, 3, none⟩ = some (.slice x.A3 x.n3 x.c3) := hn2.cell 3
  have HN2 := Lib.hid hn2
  clear hb2 hn2
  go_wp2_with fail
  cases hmk : mkG x with
  | none =>
    refine (made_no x W2 H2.out hmk).mono ?_
    rintro e W3 ⟨rfl, hb3⟩
    have HB3 := Lib.hid (HB2.out.trans (hb3.mono HB2.out.size))
    clear hb3
    go_wp2_with fail
    go_ret
    exact ⟨rfl, HB3.out⟩
  | some s =>
    refine (made_yes x s W2 H2.out hmk).mono ?_
    rintro e W3 ⟨g, b, rfl, hG3, hg, hb, hb3⟩
    have h60 := (mkG_some hmk).1
    obtain ⟨hsL, hsli⟩ := mkG_L hmk
    have hgw : w.heap.size < g := by have := HB2.out.size; have := HN2.out.lt; omega
    have HB3 := Lib.hid (HB2.out.trans (hb3.mono HB2.out.size))
    have H3 := Lib.hid (SA.below H2.out hb3)
    have HN3 := Lib.hid (HN2.out.below hb3)
    have z1 : W3.cell? ⟨w.heap.size, 1, none⟩ = some (.slice x.A1 x.n1 x.c1) := HN3.out.cell 1
    have z3 : W3.cell? ⟨w.heap.size, 3, none⟩ = some (.slice x.A3 x.n3 x.c3) := HN3.out.cell 3
    have HG3 := Lib.hid hG3
    have HSL := Lib.hid hsL
    have HSli := Lib.hid hsli
    rw [← HLen.out] at h60
    clear hb3 hG3 y0 y1 y2 y3 hmk hsL hsli
    by_cases hn0 : x.n1 = 0
    · have hd : ((x.n1 : Int) == 0) = true := by simp [hn0]
      clear hn0
      go_wp2_with fail
      go_ret
      exact ⟨rfl, HB3.out⟩
    · have hd : ((x.n1 : Int) == 0) = false := by simp [hn0]
      go_wp2_with fail
      refine (pick_any link x.n1 (by omega) (by omega) W3).mono ?_
      rintro e w' ⟨rfl, rfl⟩
      obtain ⟨i, hi⟩ : ∃ i : Nat, link % (x.n1 : Int) = i := ⟨(link % (x.n1 : Int)).toNat, by have := Int.emod_nonneg link (show (x.n1 : Int) ≠ 0 by omega); omega⟩
      have hin : i < x.n1 := by have := Int.emod_lt_of_pos link (show (0 : Int) < x.n1 by omega); omega
      rw [hi]
      clear hi hd
      go_wp2_with fail
      refine (hasB_any _ _ _ x.dl i W3 H3.out.s3 H3.out.m3).mono ?_
      rintro e w' ⟨rfl, rfl⟩
      by_cases hdl : (i : Int) ∈ x.dl
      · rw [show decide ((i : Int) ∈ x.dl) = true by simpa using hdl]
        clear hdl
        go_wp2_with fail
        go_ret
        exact ⟨rfl, HB3.out⟩
      · rw [show decide ((i : Int) ∈ x.dl) = false by simpa using hdl]
        have hM : x.n1 = s.L.length := by rw [HSL.out]; exact HLen.out
        have hli : s.li i = true := by rw [HSli.out i (by rw [← HLen.out]; exact hin)]; simpa using hdl
        have hiM : i < s.L.length := by omega
        have HBack := Lib.hid (set_back hli)
        have HSet : Hid (setLink s i false = (0, s.setLi i false)) := Lib.hid (by unfold setLink; rw [if_pos (by omega)]; simp)
        have HSet2 : Hid (setLink (s.setLi i false) i true = (0, s)) := Lib.hid (by
          unfold setLink
          rw [if_pos (by show 0 ≤ (i : Int) ∧ (i : Int) < (s.L.length : Int); omega)]
          simp [HBack.out])
        have HMM := Lib.hid hM
        have HOK := Lib.hid HG3.out.ok
        have HCut := Lib.hid (cut_comps HOK.out i)
        clear hdl hli hiM hM
        -- the components and flags before
        go_wp2_with fail
        refine (parts_any g b s W3 HG3.out).mono ?_
        rintro e W4 ⟨A4, c4, n4, rfl, hn4, hs4, hf4, hb4⟩
        have HS4 := Lib.hid hs4
        have hg3 := HG3.out.lt
        have HF4 : Hid (∀ ad : Addr, A4 = some ad → g < ad.block) := Lib.hid (fun ad e => Nat.lt_of_lt_of_le hg3 (hf4 ad e))
        have hg4 : g < W4.heap.size := Nat.lt_of_lt_of_le hg3 hb4.size
        have HB4 := Lib.hid (HB3.out.trans (hb4.mono HB3.out.size))
        have HG4 := Lib.hid (HG3.out.below hb4)
        have HN4 := Lib.hid (HN3.out.below hb4)
        clear hs4 hb4 hf4
        go_wp2_with fail
        refine (flags_any g b s W4 HG4.out).mono ?_
        rintro e W5 ⟨A5, c5, rfl, ho5, hb5⟩
        rw [← HMM.out] at ho5 ⊢
        have HS5 := Lib.hid (Sq.own ho5)
        have HF5 : Hid (∀ ad : Addr, A5 = some ad → g < ad.block) := Lib.hid (fun ad e => Nat.lt_of_lt_of_le hg4 (own_fresh ho5 ad e))
        have HB5 := Lib.hid (HB4.out.trans (hb5.mono HB4.out.size))
        have HG5 := Lib.hid (HG4.out.below hb5)
        have HN5 := Lib.hid (HN4.out.below hb5)
        have HS45 := Lib.hid (HS4.out.below hb5)
        have hA5 : W4.heap.size ≤ W5.heap.size := hb5.size
        clear ho5 hb5
        go_wp2_with fail
        refine (setLink_any g b s W5 HG5.out i false).mono ?_
        rintro e W6 hs6
        have hO6 := hs6.2.2
        have hb6 := hs6.below (Nat.le_of_lt hgw) HB5.out.size
        rw [HSet.out] at hs6
        obtain ⟨rfl, hG6, _⟩ := hs6
        have HG6 := Lib.hid hG6
        have HB6 := Lib.hid (HB5.out.trans hb6)
        have HS46 := Lib.hid (HS45.out.only hO6 HF4.out)
        have HS56 := Lib.hid (HS5.out.only hO6 HF5.out)
        have HN6 := Lib.hid (HN5.out.grown hO6 (by intro h9; injection h9 with h9; omega))
        clear hO6 hb6 hG6 HG5 HG4 HS45 HS5 HN5 HN4 HN3 HG3
        go_wp2_with fail
        refine (parts_any g b (s.setLi i false) W6 HG6.out).mono ?_
        rintro e W7 ⟨A7, c7, n7, rfl, hn7, hs7, hf7, hb7⟩
        have HB7 := Lib.hid (HB6.out.trans (hb7.mono HB6.out.size))
        have HG7 := Lib.hid (HG6.out.below hb7)
        have HS47 := Lib.hid (HS46.out.below hb7)
        have HS57 := Lib.hid (HS56.out.below hb7)
        have HN7 := Lib.hid (HN6.out.below hb7)
        clear hs7 hf7 hb7 HS46 HS56 HN6 HG6
        go_wp2_with fail
        refine (flags_any g b (s.setLi i false) W7 HG7.out).mono ?_
        rintro e W8 ⟨A8, c8, rfl, ho8, hb8⟩
        rw [show (s.setLi i false).L.length = x.n1 from HMM.out.symm] at ho8 ⊢
        have HS8 := Lib.hid (Sq.own ho8)
        have HF8 : Hid (∀ ad : Addr, A8 = some ad → g < ad.block) := Lib.hid (fun ad e => Nat.lt_of_lt_of_le HG7.out.lt (own_fresh ho8 ad e))
        have HB8 := Lib.hid (HB7.out.trans (hb8.mono HB7.out.size))
        have HG8 := Lib.hid (HG7.out.below hb8)
        have HS48 := Lib.hid (HS47.out.below hb8)
        have HS58 := Lib.hid (HS57.out.below hb8)
        have HN8 := Lib.hid (HN7.out.below hb8)
        have z1 : W8.cell? ⟨w.heap.size, 1, none⟩ = some (.slice x.A1 x.n1 x.c1) := HN8.out.cell 1
        obtain ⟨b5, o5, hA5, hb5l, hcel5⟩ := flag_cell HS58.out HMM.out (by omega)
        obtain ⟨b8, o8, hA8, hb8l, hcel8⟩ := flag_cell HS8.out (show x.n1 = (s.setLi i false).L.length from HMM.out) (by omega)
        have q5 : W8.cell? ⟨b5, o5 + i, none⟩ = some (.bool (s.up i)) := hcel5 i hin
        have q8 : W8.cell? ⟨b8, o8 + i, none⟩ = some (.bool false) := by have := hcel8 i hin; rw [cut_up, if_pos rfl] at this; exact this
        have hc5 := HS58.out.cap
        have hc8 := HS8.out.cap
        have hinI : (i : Int) < (x.n1 : Int) := by omega
        have HC5 := Lib.hid hcel5
        have HC8 := Lib.hid hcel8
        have HA5 := Lib.hid hA5
        have HA8 := Lib.hid hA8
        clear ho8 hb8 HS47 HS57 HN7 HG7 hcel5 hcel8 hA5 hA8
        rw [HA5.out, HA8.out]
        have hcut := HCut.out
        obtain ⟨p, hp⟩ : ∃ p, s.comps.length = p := ⟨_, rfl⟩
        obtain ⟨q, hq⟩ : ∃ q, (s.setLi i false).comps.length = q := ⟨_, rfl⟩
        have hp32 : p ≤ 32 := by rw [← hp]; exact (comps_small HOK.out).1
        rw [hp, hq] at hcut
        rw [hp, hq]
        clear hp hq HCut
        rcases hcut with hq | ⟨hq, hu⟩
        · have hb1 : ((q : Int) != (p : Int)) = false := by simp [hq]
          have hq9 : q ≤ 33 := by omega
          clear hq
          go_wp2_with fail
          go_loopw [14] (fun v wr => ∃ k t : Nat, k ≤ x.n1 ∧ v = .int .i64 k ∧ wr = W8.drewN t) (fun v _ => x.n1 - (intOf v).toNat)
          case atStart => exact ⟨0, 0, Nat.zero_le _, rfl, rfl⟩
          case round =>
            obtain ⟨k, t, hk, rfl, rfl⟩ := hrel
            by_cases hlt : k < x.n1
            · have r5 : W8.cell? ⟨b5, o5 + k, none⟩ = some (.bool (s.up k)) := HC5.out k hlt
              have r8 : W8.cell? ⟨b8, o8 + k, none⟩ = some (.bool ((s.setLi i false).up k)) := HC8.out k hlt
              rw [cut_up] at r8
              have hkl : (k : Int) < (x.n1 : Int) := by omega
              clear q5 q8
              by_cases hki : k = i
              · have hne : ((k : Int) != (i : Int)) = false := by simp [hki]
                clear hki r8
                go_wp2_with fail
                go_quiet (fail)
                go_wp2_with fail
                go_roundw
                case rel => exact ⟨k + 1, _, by omega, by go_num, rfl⟩
                case measure => simp [intOf]; omega
              · have hne : ((k : Int) != (i : Int)) = true := by simp; omega
                rw [if_neg hki] at r8
                obtain ⟨u, hu⟩ : ∃ u, s.up k = u := ⟨_, rfl⟩
                rw [hu] at r5 r8
                have hbne : (u != u) = false := bne_self_eq_false u
                clear hki hu
                go_wp2_with fail
                go_quiet (fail)
                go_wp2_with fail
                go_roundw
                case rel => exact ⟨k + 1, _, by omega, by go_num, rfl⟩
                case measure => simp [intOf]; omega
            · obtain rfl : k = x.n1 := by omega
              have hb9 : Below W8.heap.size W8 (W8.drewN t) := below_drewN (Below.refl _ _) t
              obtain ⟨W9, hW9⟩ : ∃ W9, W8.drewN t = W9 := ⟨_, rfl⟩
              rw [hW9] at hb9 ⊢
              have HB9 := Lib.hid (HB8.out.trans (hb9.mono HB8.out.size))
              have HG9 := Lib.hid (HG8.out.below hb9)
              have HS49 := Lib.hid (HS48.out.below hb9)
              have HS59 := Lib.hid (HS58.out.below hb9)
              clear hb9 hW9 q5 q8
              go_wp2_with fail
              refine (setLink_any g b (s.setLi i false) W9 HG9.out i true).mono ?_
              rintro e W10 hs10
              have hO10 := hs10.2.2
              have hb10 := hs10.below (Nat.le_of_lt hgw) HB9.out.size
              rw [HSet2.out] at hs10
              obtain ⟨rfl, hG10, _⟩ := hs10
              have HG10 := Lib.hid hG10
              have HB10 := Lib.hid (HB9.out.trans hb10)
              have HS410 := Lib.hid (HS49.out.only hO10 HF4.out)
              have HS510 := Lib.hid (HS59.out.only hO10 HF5.out)
              clear hO10 hb10 hG10
              go_wp2_with fail
              refine (parts_any g b s W10 HG10.out).mono ?_
              rintro e W11 ⟨A11, c11, n11, rfl, hn11, hs11, hf11, hb11⟩
              have HB11 := Lib.hid (HB10.out.trans (hb11.mono HB10.out.size))
              have HG11 := Lib.hid (HG10.out.below hb11)
              have HS411 := Lib.hid (HS410.out.below hb11)
              have HS511 := Lib.hid (HS510.out.below hb11)
              have hnn : n11 = n4 := by have h1 := hs11.len; have h2 := HS411.out.len; omega
              subst hnn
              have HS11 := Lib.hid hs11
              clear hs11 hf11 hb11
              go_wp2_with fail
              refine (same_ints HS411.out HS11.out (by omega)).mono ?_
              rintro e W12 ⟨rfl, hb12⟩
              have HB12 := Lib.hid (HB11.out.trans (hb12.mono HB11.out.size))
              have HG12 := Lib.hid (HG11.out.below hb12)
              have HS512 := Lib.hid (HS511.out.below hb12)
              clear hb12
              go_wp2_with fail
              refine (flags_any g b s W12 HG12.out).mono ?_
              rintro e W13 ⟨A13, c13, rfl, ho13, hb13⟩
              rw [← HMM.out] at ho13 ⊢
              have HS13 := Lib.hid (Sq.own ho13)
              have HB13 := Lib.hid (HB12.out.trans (hb13.mono HB12.out.size))
              have HS513 := Lib.hid (HS512.out.below hb13)
              clear ho13 hb13
              rw [← HA5.out]
              go_wp2_with fail
              refine (same_bools HS13.out HS513.out (by omega)).mono ?_
              rintro e W14 ⟨rfl, hb14⟩
              have HB14 := Lib.hid (HB13.out.trans (hb14.mono HB13.out.size))
              clear hb14
              go_wp2_with fail
              go_ret
              exact ⟨rfl, HB14.out⟩
        · have hb1 : ((q : Int) != (p : Int)) = true := by simp; omega
          have hb2 : ((q : Int) != (p : Int) + 1) = false := by simp; omega
          rw [hu] at q5
          have hq9 : q ≤ 33 := by omega
          clear hq hu
          go_wp2_with fail
          go_loopw [14] (fun v wr => ∃ k t : Nat, k ≤ x.n1 ∧ v = .int .i64 k ∧ wr = W8.drewN t) (fun v _ => x.n1 - (intOf v).toNat)
          case atStart => exact ⟨0, 0, Nat.zero_le _, rfl, rfl⟩
          case round =>
            obtain ⟨k, t, hk, rfl, rfl⟩ := hrel
            by_cases hlt : k < x.n1
            · have r5 : W8.cell? ⟨b5, o5 + k, none⟩ = some (.bool (s.up k)) := HC5.out k hlt
              have r8 : W8.cell? ⟨b8, o8 + k, none⟩ = some (.bool ((s.setLi i false).up k)) := HC8.out k hlt
              rw [cut_up] at r8
              have hkl : (k : Int) < (x.n1 : Int) := by omega
              clear q5 q8
              by_cases hki : k = i
              · have hne : ((k : Int) != (i : Int)) = false := by simp [hki]
                clear hki r8
                go_wp2_with fail
                go_quiet (fail)
                go_wp2_with fail
                go_roundw
                case rel => exact ⟨k + 1, _, by omega, by go_num, rfl⟩
                case measure => simp [intOf]; omega
              · have hne : ((k : Int) != (i : Int)) = true := by simp; omega
                rw [if_neg hki] at r8
                obtain ⟨u, hu⟩ : ∃ u, s.up k = u := ⟨_, rfl⟩
                rw [hu] at r5 r8
                have hbne : (u != u) = false := bne_self_eq_false u
                clear hki hu
                go_wp2_with fail
                go_quiet (fail)
                go_wp2_with fail
                go_roundw
                case rel => exact ⟨k + 1, _, by omega, by go_num, rfl⟩
                case measure => simp [intOf]; omega
            · obtain rfl : k = x.n1 := by omega
              have hb9 : Below W8.heap.size W8 (W8.drewN t) := below_drewN (Below.refl _ _) t
              obtain ⟨W9, hW9⟩ : ∃ W9, W8.drewN t = W9 := ⟨_, rfl⟩
              rw [hW9] at hb9 ⊢
              have HB9 := Lib.hid (HB8.out.trans (hb9.mono HB8.out.size))
              have HG9 := Lib.hid (HG8.out.below hb9)
              have HS49 := Lib.hid (HS48.out.below hb9)
              have HS59 := Lib.hid (HS58.out.below hb9)
              clear hb9 hW9 q5 q8
              go_wp2_with fail
              refine (setLink_any g b (s.setLi i false) W9 HG9.out i true).mono ?_
              rintro e W10 hs10
              have hO10 := hs10.2.2
              have hb10 := hs10.below (Nat.le_of_lt hgw) HB9.out.size
              rw [HSet2.out] at hs10
              obtain ⟨rfl, hG10, _⟩ := hs10
              have HG10 := Lib.hid hG10
              have HB10 := Lib.hid (HB9.out.trans hb10)
              have HS410 := Lib.hid (HS49.out.only hO10 HF4.out)
              have HS510 := Lib.hid (HS59.out.only hO10 HF5.out)
              clear hO10 hb10 hG10
              go_wp2_with fail
              refine (parts_any g b s W10 HG10.out).mono ?_
              rintro e W11 ⟨A11, c11, n11, rfl, hn11, hs11, hf11, hb11⟩
              have HB11 := Lib.hid (HB10.out.trans (hb11.mono HB10.out.size))
              have HG11 := Lib.hid (HG10.out.below hb11)
              have HS411 := Lib.hid (HS410.out.below hb11)
              have HS511 := Lib.hid (HS510.out.below hb11)
              have hnn : n11 = n4 := by have h1 := hs11.len; have h2 := HS411.out.len; omega
              subst hnn
              have HS11 := Lib.hid hs11
              clear hs11 hf11 hb11
              go_wp2_with fail
              refine (same_ints HS411.out HS11.out (by omega)).mono ?_
              rintro e W12 ⟨rfl, hb12⟩
              have HB12 := Lib.hid (HB11.out.trans (hb12.mono HB11.out.size))
              have HG12 := Lib.hid (HG11.out.below hb12)
              have HS512 := Lib.hid (HS511.out.below hb12)
              clear hb12
              go_wp2_with fail
              refine (flags_any g b s W12 HG12.out).mono ?_
              rintro e W13 ⟨A13, c13, rfl, ho13, hb13⟩
              rw [← HMM.out] at ho13 ⊢
              have HS13 := Lib.hid (Sq.own ho13)
              have HB13 := Lib.hid (HB12.out.trans (hb13.mono HB12.out.size))
              have HS513 := Lib.hid (HS512.out.below hb13)
              clear ho13 hb13
              rw [← HA5.out]
              go_wp2_with fail
              refine (same_bools HS13.out HS513.out (by omega)).mono ?_
              rintro e W14 ⟨rfl, hb14⟩
              have HB14 := Lib.hid (HB13.out.trans (hb14.mono HB13.out.size))
              clear hb14
              go_wp2_with fail
              go_ret
              exact ⟨rfl, HB14.out⟩

end Go.Proofs.Ytfmjcjkifjndgaa
