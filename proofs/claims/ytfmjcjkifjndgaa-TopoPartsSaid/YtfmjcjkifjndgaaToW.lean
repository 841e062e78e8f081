/- Graphs: TopoLast's walk. -/
import Derived.Test.YtfmjcjkifjndgaaToV
import Derived.Deep.RegionHeld3
namespace Go.Proofs.Ytfmjcjkifjndgaa
open Go.RowKit
set_option linter.unusedVariables false
set_option linter.unusedSimpArgs false
set_option maxRecDepth 100000

/-- A pointer to a graph, or to none. -/
def PG (w : World) (base : Nat) (P : Option Addr) (o : Option GS) : Prop := (o = none ∧ P = none) ∨ ∃ s g b, o = some s ∧ P = some ⟨g, 0, none⟩ ∧ Gr w g b s ∧ base ≤ g ∧ base ≤ b
theorem PG.below {w w' : World} {base : Nat} {P : Option Addr} {o : Option GS} (h : PG w base P o) (hb : Below w.heap.size w w') : PG w' base P o := by
  rcases h with h | ⟨s, g, b, h1, h2, h3, h4⟩
  · exact .inl h
  · exact .inr ⟨s, g, b, h1, h2, h3.below hb, h4⟩
theorem made_any (x : SA) (w : World) (H : x.at_ w) :
    Calls Try.prog 36 #[x.v] w fun e w' => ∃ P, e = .returned (.pointer P) ∧ PG w' w.heap.size P (mkG x) ∧ Below w.heap.size w w' := by
  cases hm : mkG x with
  | none => exact (made_no x w H hm).mono fun e w' ⟨he, hb⟩ => ⟨none, he, .inl ⟨rfl, rfl⟩, hb⟩
  | some s => exact (made_yes x s w H hm).mono fun e w' ⟨g, b, he, hG, hg, hb, hB⟩ => ⟨_, he, .inr ⟨s, g, b, rfl, rfl, hG, hg, hb⟩, hB⟩
/-- The same with nothing down. -/
def SA.bare (x : SA) : SA := ⟨x.N, x.A1, x.n1, x.c1, none, 0, 0, none, 0, 0, x.L, [], []⟩
theorem SA.bare_at {x : SA} {W : World} (h : x.at_ W) : x.bare.at_ W := ⟨h.l, rfl, by show 0 ≤ _; omega, ⟨rfl, Nat.le_refl _, fun h => absurd h (by show ¬ 0 < 0; omega)⟩, rfl, by show 0 ≤ _; omega, ⟨rfl, Nat.le_refl _, fun h => absurd h (by show ¬ 0 < 0; omega)⟩⟩
theorem mkG_bare {x : SA} {s : GS} (h : mkG x = some s) : mkG x.bare = some (gs0 x.N.toNat x.L) := by
  obtain ⟨h1, h2, h3, hv, _⟩ := mkG_some h
  unfold mkG SA.bare
  simp only
  rw [if_neg (by simp; omega), if_pos hv]
  rfl
theorem gs_ext {s t : GS} (hN : s.N = t.N) (hL : s.L = t.L) (hs : s.ok) (ht : t.ok) (hl : ∀ i, i < s.L.length → s.li i = t.li i) (ha : ∀ n, n < s.N → s.al n = t.al n) : s = t := by
  obtain ⟨N, L, al, li⟩ := s
  obtain ⟨N', L', al', li'⟩ := t
  simp only at hN hL hl ha
  subst hN hL
  have e1 : al = al' := by
    funext n
    by_cases h : n < N
    · exact ha n h
    · have p : al n = false := by rw [← Bool.not_eq_true]; intro h9; exact h (hs.alN n h9)
      have q : al' n = false := by rw [← Bool.not_eq_true]; intro h9; exact h (ht.alN n h9)
      rw [p, q]
  have e2 : li = li' := by
    funext n
    by_cases h : n < L.length
    · exact hl n h
    · have p : li n = false := by rw [← Bool.not_eq_true]; intro h9; exact h (hs.liM n h9)
      have q : li' n = false := by rw [← Bool.not_eq_true]; intro h9; exact h (ht.liM n h9)
      rw [p, q]
  subst e1 e2
  rfl
theorem dnN_at (l : List Int) (s : GS) (i : Nat) (hi : i < s.N) : (dnN s l).al i = (s.al i && !decide ((i : Int) ∈ l)) := by
  induction l generalizing s with
  | nil => simp [dnN]
  | cons n l ih =>
    show (dnN (setNode s n false).2 l).al i = _
    rw [ih _ (by rw [(setNode_li s n false).2.2]; exact hi)]
    unfold setNode
    by_cases hc : 0 ≤ n ∧ n < (s.N : Int)
    · rw [if_pos hc]
      show (put s.al n.toNat false i && _) = _
      by_cases e : i = n.toNat
      · have : (i : Int) = n := by omega
        rw [e, put_same]
        rw [← e]
        simp [this]
      · rw [put_other e]
        have : (i : Int) ≠ n := by omega
        simp [this]
    · rw [if_neg hc]
      have : (i : Int) ≠ n := by omega
      simp [this]
theorem mkG_al {x : SA} {s : GS} (h : mkG x = some s) : s.N = x.N.toNat ∧ (∀ i : Nat, i < x.N.toNat → s.al i = !decide ((i : Int) ∈ x.dn)) := by
  obtain ⟨_, _, _, _, rfl⟩ := mkG_some h
  refine ⟨((dnL_keeps _ _).2.2).trans (dnN_keeps _ _).2.2, fun i hi => ?_⟩
  rw [(dnL_keeps _ _).1, dnN_at _ _ _ hi]
  have : (gs0 x.N.toNat x.L).al i = true := by simp [gs0, fstF, hi]
  rw [this]; rfl
theorem setLink_in {s : GS} {i : Nat} (h : i < s.L.length) (u : Bool) : setLink s i u = (0, s.setLi i u) := by unfold setLink; rw [if_pos (by omega)]; simp
theorem setNode_in {s : GS} {i : Nat} (h : i < s.N) (u : Bool) : setNode s i u = (0, s.setAl i u) := by unfold setNode; rw [if_pos (by omega)]; simp

set_option maxHeartbeats 8000000 in
theorem last_any (x : SA) (A : Option Addr) (n c : Nat) (ks : List AC) (w : World) (H : x.at_ w) (hn : n = ks.length) (hnm : n ≤ 9223372036854775807) (hwf : ∀ y ∈ ks, (Lit.int .i64 y.k).wf = true) (hks : Sq w A n c 3 (ks.flatMap AC.l)) :
    Calls Try.prog 9 #[x.v, .slice A n c] w (Says w true) := by
  have HB := Lib.hid (alloc_below w (.cells (sacs x) 69))
  have HN := Lib.hid (Has.new w 69 (sacs x))
  have H1 := Lib.hid (SA.below H HB.out)
  have HKs := Lib.hid hks
  have HLen := Lib.hid H.l.len
  have HKn := Lib.hid hn
  have HWf := Lib.hid hwf
  clear H hks hn hwf
  go_enter Try.func9, Try.ntmps9
  go_upto_region 1 with fail
  generalize w.alloc (.cells (sacs x) 69) = W1 at *
  go_wp2_with fail
  refine (known_any W1).mono ?_
  rintro e W2 ⟨rfl, hb2⟩
  have HB2 := Lib.hid (HB.out.trans (hb2.mono HB.out.size))
  have H2 := Lib.hid (SA.below H1.out hb2)
  have HN2 := Lib.hid (HN.out.below hb2)
  have hS : ∀ W', Below W2.heap.size W2 W' → (W'.cell? ⟨w.heap.size, 0, none⟩ = some (.int .i64 x.N) ∧ W'.cell? ⟨w.heap.size, 1, none⟩ = some (.slice x.A1 x.n1 x.c1) ∧ W'.cell? ⟨w.heap.size, 2, none⟩ = some (.slice x.A2 x.n2 x.c2) ∧ W'.cell? ⟨w.heap.size, 3, none⟩ = some (.slice x.A3 x.n3 x.c3)) ∧ Below W2.heap.size W2 W' := fun W' hb => by
    have h := HN2.out.below hb
    exact ⟨⟨h.cell 0, h.cell 1, h.cell 2, h.cell 3⟩, hb⟩
  have hbW := hb2
  have HS := Lib.hid hS
  obtain ⟨⟨y0, y1, y2, y3⟩, _⟩ := hS W2 (Below.refl _ _)
  have hd0 : Below W2.heap.size W2 W2.drew := below_drewN (Below.refl _ _) 1
  clear hb2 hS
  go_wp2_with fail
  have tok : True := trivial
  go_region_held3 (fun w' => (w'.cell? ⟨w.heap.size, 0, none⟩ = some (.int .i64 x.N) ∧ w'.cell? ⟨w.heap.size, 1, none⟩ = some (.slice x.A1 x.n1 x.c1) ∧ w'.cell? ⟨w.heap.size, 2, none⟩ = some (.slice x.A2 x.n2 x.c2) ∧ w'.cell? ⟨w.heap.size, 3, none⟩ = some (.slice x.A3 x.n3 x.c3)) ∧ Below W2.heap.size W2 w')
    (first | exact HS.out _ hd0 | exact HS.out _ (hd0.trans (hb8.mono (Nat.le_refl _))) | exact HS.out _ ((hd0.trans (hb8.mono (Nat.le_refl _))).trans (hb9.mono hb8.size)))
    (first
      | (go_at_call 36; have t1 := tok; refine (made_any x _ (SA.below H2.out hd0)).mono ?_; rintro e w8 ⟨P, rfl, hP, hb8⟩; clear tok t1)
      | (go_at_call 36; refine (made_any x.bare w8 (SA.bare_at (SA.below (SA.below H2.out hd0) hb8))).mono ?_; rintro e w9 ⟨P2, rfl, hP2, hb9⟩))
  have hb89 : W2.heap.size ≤ w8.heap.size := hb8.size
  have hbA : Below W2.heap.size W2 w9 := (hd0.trans (hb8.mono (Nat.le_refl _))).trans (hb9.mono hb89)
  have HBA := Lib.hid hbA
  have HB9 := Lib.hid (HB2.out.trans (hbA.mono HB2.out.size))
  have HN9 := Lib.hid (HN2.out.below hbA)
  have hw2 := HB2.out.size
  have hw8 : w8.heap.size ≤ w9.heap.size := hb9.size
  clear y0 y1 y2 y3
  rcases hP with ⟨_, rfl⟩ | ⟨s, g, b, ho, rfl, hG8, hg, hb⟩
  · clear hP2 hb8 hb9 hbA hd0
    go_wp2_with fail
    go_ret
    exact ⟨rfl, HB9.out⟩
  · have hgl := hG8.lt
    have hbl := hG8.lb
    have HG9 := Lib.hid (hG8.below hb9)
    have hbare := mkG_bare ho
    obtain ⟨g2, b2, rfl, hG2, hg2, hb2⟩ : ∃ g2 b2, P2 = some ⟨g2, 0, none⟩ ∧ Gr w9 g2 b2 (gs0 x.N.toNat x.L) ∧ w8.heap.size ≤ g2 ∧ w8.heap.size ≤ b2 := by
      rcases hP2 with ⟨h9, _⟩ | ⟨s', g', b', h9, e9, hG9, h3, h4⟩
      · rw [hbare] at h9; cases h9
      · rw [hbare] at h9
        injection h9 with h9
        subst h9
        exact ⟨g', b', e9, hG9, h3, h4⟩
    have hsome := mkG_some ho
    obtain ⟨hsL, hsl⟩ := mkG_L ho
    obtain ⟨hsN, hsa⟩ := mkG_al ho
    obtain ⟨N, hN⟩ : ∃ N : Nat, x.N = N := ⟨x.N.toNat, by have := (valE_ok hsome.2.2.2.1).1; omega⟩
    have hNt : x.N.toNat = N := by rw [hN]; simp
    rw [hNt] at hG2 hsN hsa
    have hM60 := hsome.1
    rw [← HLen.out] at hM60
    have hL2 : (gs0 N x.L).L = x.L := rfl
    have HG2 := Lib.hid hG2
    have hok0 := hG2.ok
    have hN32 : N ≤ 32 := hok0.n32
    have HSL := Lib.hid hsL
    have HSl := Lib.hid hsl
    have HSN := Lib.hid hsN
    have HSa := Lib.hid hsa
    have HOKs := Lib.hid hG8.ok
    have hy0 : w9.cell? ⟨w.heap.size, 0, none⟩ = some (.int .i64 (N : Int)) := by rw [← hN]; exact HN9.out.cell 0
    have hy1 : w9.cell? ⟨w.heap.size, 1, none⟩ = some (.slice x.A1 x.n1 x.c1) := HN9.out.cell 1
    have hy2 : w9.cell? ⟨w.heap.size, 2, none⟩ = some (.slice x.A2 x.n2 x.c2) := HN9.out.cell 2
    have hy3 : w9.cell? ⟨w.heap.size, 3, none⟩ = some (.slice x.A3 x.n3 x.c3) := HN9.out.cell 3
    have hwl : w.heap.size < w8.heap.size := by
      have h1 := HN2.out.lt
      omega
    have HKey : Hid (∀ wr : World, Below w8.heap.size w9 wr → Gr wr g b s ∧ x.at_ wr ∧ Sq wr A n c 3 (ks.flatMap AC.l) ∧ Below w.heap.size w wr) := Lib.hid (fun wr hw => by
      have h1 : Below W2.heap.size W2 wr := HBA.out.trans (hw.mono hb89)
      have h2 : Below w.heap.size w wr := HB9.out.trans (hw.mono (by omega))
      exact ⟨HG9.out.belowN hw hgl hbl, SA.below H2.out h1, HKs.out.below h2, h2⟩)
    clear hG8 hG2 hP2 hb8 hb9 hbA hd0 hbare hsome hsL hsl hsN hsa ho hok0
    rw [hN]
    by_cases h60 : 60 < n
    · have hd : decide ((60 : Int) < (n : Int)) = true := by simp; omega
      go_wp2_with fail
      go_ret
      exact ⟨rfl, HB9.out⟩
    · have hd : decide ((60 : Int) < (n : Int)) = false := by simp; omega
      go_wp2_with fail
      go_loopw [8] (fun i wr => ∃ (k : Nat) (t : GS), k ≤ n ∧ i = .int .i64 k ∧ Gr wr g2 b2 t ∧ Hid (t.N = N ∧ t.L = x.L) ∧ Below w8.heap.size w9 wr) (fun i _ => n - (intOf i).toNat)
      case atStart => exact ⟨0, _, Nat.zero_le _, rfl, HG2.out, Lib.hid ⟨rfl, rfl⟩, Below.refl _ _⟩
      case round =>
        obtain ⟨k, t, hk, rfl, hGt, HT, hw⟩ := hrel
        obtain ⟨_, _, hSk, hbk⟩ := HKey.out wr hw
        by_cases hlt : k < n
        · obtain ⟨y, hy⟩ : ∃ y, ks[k]? = some y := ⟨ks[k]'(by rw [← HKn.out]; exact hlt), by rw [List.getElem?_eq_getElem]⟩
          obtain ⟨bb, oo, rfl, hbl9, hcel9⟩ := HKs.out.cel (by omega)
          have hcel : ∀ (j : Nat) (v : Value), (ks.flatMap AC.l)[j]? = some v → wr.cell? ⟨bb, oo + j, none⟩ = some v := fun j v h => (hbk.cell (p := ⟨bb, oo + j, none⟩) hbl9).trans (hcel9 j v h)
          have hcap := hSk.cap
          have hbg : bb ≠ g2 := by omega
          have hbw9 : bb < wr.heap.size := by have := hw.size; omega
          have v0 := flat3_at AC.l (fun _ => rfl) ks k 0 y hy (by omega)
          have v1 := flat3_at AC.l (fun _ => rfl) ks k 1 y hy (by omega)
          have v2 := flat3_at AC.l (fun _ => rfl) ks k 2 y hy (by omega)
          have q0 : wr.cell? ⟨bb, oo + k * 3, none⟩ = some (.int .i64 y.k) := hcel _ _ v0
          have q1 : wr.cell? ⟨bb, oo + k * 3 + 1, none⟩ = some (.int .i64 y.n) := by rw [Nat.add_assoc]; exact hcel _ _ v1
          have q2 : wr.cell? ⟨bb, oo + k * 3 + 2, none⟩ = some (.bool y.u) := by rw [Nat.add_assoc]; exact hcel _ _ v2
          have hkl : (k : Int) < (n : Int) := by omega
          have htb := tmod_bd y.k 2 (by omega)
          obtain ⟨hb0, hb1⟩ := htb
          have HGt := Lib.hid hGt
          have HW := Lib.hid hw
          have hws := hw.size
          have hg2w : w8.heap.size ≤ g2 := hg2
          clear hcel hcel9 hbk v0 v1 v2 hy hGt hw hSk
          by_cases hkind : y.k.tmod 2 = 0
          ·
            have hbe : (y.k.tmod 2 == 0) = true := by simp [hkind]
            clear hkind
            go_wp2_with fail
            go_region_held3 (fun w' => w'.cell? ⟨bb, oo + k * 3 + 1, none⟩ = some (.int .i64 y.n) ∧ w'.cell? ⟨bb, oo + k * 3 + 2, none⟩ = some (.bool y.u)) (first | go_keep | exact ⟨(World.cell?_of_block (hO6.block bb hbw9 (by rintro ⟨⟩; exact hbg rfl))).trans q1, (World.cell?_of_block (hO6.block bb hbw9 (by rintro ⟨⟩; exact hbg rfl))).trans q2⟩)
              ((go_at_call 17; refine (setLink_any g2 b2 t _ (HGt.out.drewN 1) y.n y.u).mono ?_; rintro e w6 ⟨rfl, hG6, hO6⟩))
            all_goals
              have hd1 : Below w8.heap.size w9 wr.drew := below_drewN HW.out 1
              have hb6 : Below w8.heap.size w9 w6 := hd1.trans (below_only (Below.refl _ _) hO6 hg2w (Nat.le_trans hw8 hd1.size))
              have HG6 := Lib.hid hG6
              have HB6 := Lib.hid hb6
              clear hG6 hO6 hb6 hd1
              go_wp2_with fail
              go_roundw
              case rel => exact ⟨k + 1, _, by omega, by go_num, HG6.out, Lib.hid ⟨(setLink_al t y.n y.u).2.2.trans HT.out.1, (setLink_al t y.n y.u).2.1.trans HT.out.2⟩, HB6.out⟩
              case measure => simp [intOf]; omega
          ·
            have hbe : (y.k.tmod 2 == 0) = false := by simp [hkind]
            clear hkind
            go_wp2_with fail
            go_region_held3 (fun w' => w'.cell? ⟨bb, oo + k * 3 + 1, none⟩ = some (.int .i64 y.n) ∧ w'.cell? ⟨bb, oo + k * 3 + 2, none⟩ = some (.bool y.u)) (first | go_keep | exact ⟨(World.cell?_of_block (hO6.block bb hbw9 (by rintro ⟨⟩; exact hbg rfl))).trans q1, (World.cell?_of_block (hO6.block bb hbw9 (by rintro ⟨⟩; exact hbg rfl))).trans q2⟩)
              ((go_at_call 19; refine (setNode_any g2 b2 t _ (HGt.out.drewN 1) y.n y.u).mono ?_; rintro e w6 ⟨rfl, hG6, hO6⟩))
            all_goals
              have hd1 : Below w8.heap.size w9 wr.drew := below_drewN HW.out 1
              have hb6 : Below w8.heap.size w9 w6 := hd1.trans (below_only (Below.refl _ _) hO6 hg2w (Nat.le_trans hw8 hd1.size))
              have HG6 := Lib.hid hG6
              have HB6 := Lib.hid hb6
              clear hG6 hO6 hb6 hd1
              go_wp2_with fail
              go_roundw
              case rel => exact ⟨k + 1, _, by omega, by go_num, HG6.out, Lib.hid ⟨(setNode_li t y.n y.u).2.2.trans HT.out.1, (setNode_li t y.n y.u).2.1.trans HT.out.2⟩, HB6.out⟩
              case measure => simp [intOf]; omega
        · obtain rfl : k = n := by omega
          have HGt := Lib.hid hGt
          have HW := Lib.hid hw
          have z1 : wr.cell? ⟨w.heap.size, 1, none⟩ = some (.slice x.A1 x.n1 x.c1) := (hw.cell (p := ⟨w.heap.size, 1, none⟩) hwl).trans hy1
          clear hGt hw hSk hd
          obtain ⟨wo, rfl⟩ : ∃ wo : World, wo = wr := ⟨_, rfl⟩
          go_wp2_with fail
          -- the links, from the last to the first
          go_loopw [9] (fun v wr => ∃ (j : Nat) (t : GS), j ≤ x.n1 ∧ v = .int .i64 ((j : Int) - 1) ∧ Gr wr g2 b2 t ∧ Hid (t.N = N ∧ t.L = x.L) ∧ Hid (∀ i : Nat, j ≤ i → i < x.n1 → t.li i = !decide ((i : Int) ∈ x.dl)) ∧ Below w8.heap.size w9 wr) (fun v _ => (intOf v + 1).toNat)
          case atStart => exact ⟨x.n1, t, Nat.le_refl _, rfl, HGt.out, HT, Lib.hid (fun i h1 h2 => by omega), HW.out⟩
          case round =>
            clear HGt HT z1 HW
            obtain ⟨j, t, hj, rfl, hGt, HT, HLi, hw⟩ := hrel
            obtain ⟨_, hxw, _, _⟩ := HKey.out wr hw
            have hg2w : w8.heap.size ≤ g2 := hg2
            rcases j with _ | j
            · have hz : ((0 : Nat) : Int) - 1 = -1 := rfl
              rw [hz]
              have HGt := Lib.hid hGt
              have HW := Lib.hid hw
              have z0 : wr.cell? ⟨w.heap.size, 0, none⟩ = some (.int .i64 (N : Int)) := (hw.cell (p := ⟨w.heap.size, 0, none⟩) hwl).trans hy0
              clear hGt hw hxw hz
              obtain ⟨wo2, rfl⟩ : ∃ wo : World, wo = wr := ⟨_, rfl⟩
              go_wp2_with fail
              go_loopw [10] (fun v wr => ∃ (j : Nat) (t : GS), j ≤ N ∧ v = .int .i64 ((j : Int) - 1) ∧ Gr wr g2 b2 t ∧ Hid (t.N = N ∧ t.L = x.L) ∧ Hid (∀ i : Nat, i < x.n1 → t.li i = !decide ((i : Int) ∈ x.dl)) ∧ Hid (∀ i : Nat, j ≤ i → i < N → t.al i = !decide ((i : Int) ∈ x.dn)) ∧ Below w8.heap.size w9 wr) (fun v _ => (intOf v + 1).toNat)
              case atStart => exact ⟨N, t, Nat.le_refl _, rfl, HGt.out, HT, Lib.hid (fun i h => HLi.out i (Nat.zero_le _) h), Lib.hid (fun i h1 h2 => by omega), HW.out⟩
              case round =>
                clear HGt HT z0 HW HLi
                obtain ⟨j, t, hj, rfl, hGt, HT, HLi, HAl, hw⟩ := hrel
                obtain ⟨hGs, hxw, _, hbw⟩ := HKey.out wr hw
                have hg2w : w8.heap.size ≤ g2 := hg2
                rcases j with _ | j
                · have hz : ((0 : Nat) : Int) - 1 = -1 := rfl
                  rw [hz]
                  have hst : t = s := gs_ext (HT.out.1.trans HSN.out.symm) (HT.out.2.trans HSL.out.symm) hGt.ok HOKs.out
                    (fun i hi => by
                      have hi' : i < x.n1 := by rw [HLen.out, ← HT.out.2]; exact hi
                      rw [HLi.out i hi', HSl.out i (by rw [← HLen.out]; exact hi')])
                    (fun i hi => by
                      have hi' : i < N := by rw [← HT.out.1]; exact hi
                      rw [HAl.out i (Nat.zero_le _) hi', HSa.out i hi'])
                  subst hst
                  have HG := Lib.hid hGs
                  have HH := Lib.hid hGt
                  have HBw := Lib.hid hbw
                  clear hGt hGs hw hxw hbw hz
                  go_wp2_with fail
                  refine (parts_any g b t wr HG.out).mono ?_
                  rintro e V1 ⟨B1, d1, m1, rfl, hm1, hs1, hf1, hv1⟩
                  have HBV1 := Lib.hid (HBw.out.trans (hv1.mono HBw.out.size))
                  have HG1 := Lib.hid (HG.out.below hv1)
                  have HH1 := Lib.hid (HH.out.below hv1)
                  have HS1 := Lib.hid hs1
                  clear hs1 hf1 hv1
                  go_wp2_with fail
                  refine (parts_any g2 b2 t V1 HH1.out).mono ?_
                  rintro e V2 ⟨B2, d2, m2, rfl, hm2, hs2, hf2, hv2⟩
                  have HBV2 := Lib.hid (HBV1.out.trans (hv2.mono HBV1.out.size))
                  have HG2 := Lib.hid (HG1.out.below hv2)
                  have HH2 := Lib.hid (HH1.out.below hv2)
                  have HS12 := Lib.hid (HS1.out.below hv2)
                  have hmm : m2 = m1 := by have h1 := hs2.len; have h2 := HS12.out.len; omega
                  subst hmm
                  have HS2 := Lib.hid hs2
                  clear hs2 hf2 hv2
                  go_wp2_with fail
                  refine (same_ints HS12.out HS2.out (by omega)).mono ?_
                  rintro e V3 ⟨rfl, hv3⟩
                  have HBV3 := Lib.hid (HBV2.out.trans (hv3.mono HBV2.out.size))
                  have HG3 := Lib.hid (HG2.out.below hv3)
                  have HH3 := Lib.hid (HH2.out.below hv3)
                  clear hv3
                  go_wp2_with fail
                  refine (flags_any g b t V3 HG3.out).mono ?_
                  rintro e V4 ⟨B4, d4, rfl, ho4, hv4⟩
                  have HBV4 := Lib.hid (HBV3.out.trans (hv4.mono HBV3.out.size))
                  have HH4 := Lib.hid (HH3.out.below hv4)
                  have HS4 := Lib.hid (Sq.own ho4)
                  clear ho4 hv4
                  go_wp2_with fail
                  refine (flags_any g2 b2 t V4 HH4.out).mono ?_
                  rintro e V5 ⟨B5, d5, rfl, ho5, hv5⟩
                  have HBV5 := Lib.hid (HBV4.out.trans (hv5.mono HBV4.out.size))
                  have HS45 := Lib.hid (HS4.out.below hv5)
                  have HS5 := Lib.hid (Sq.own ho5)
                  have hM9 : t.L.length ≤ 128 := HH4.out.ok.m128
                  clear ho5 hv5
                  go_wp2_with fail
                  refine (same_bools HS45.out HS5.out (by omega)).mono ?_
                  rintro e V6 ⟨rfl, hv6⟩
                  have HBV6 := Lib.hid (HBV5.out.trans (hv6.mono HBV5.out.size))
                  clear hv6
                  go_wp2_with fail
                  go_ret
                  exact ⟨rfl, HBV6.out⟩
                · have hz : ((j + 1 : Nat) : Int) - 1 = (j : Int) := by omega
                  rw [hz]
                  have z2 : wr.cell? ⟨w.heap.size, 2, none⟩ = some (.slice x.A2 x.n2 x.c2) := (hw.cell (p := ⟨w.heap.size, 2, none⟩) hwl).trans hy2
                  have HGt := Lib.hid hGt
                  have HW := Lib.hid hw
                  have HXW := Lib.hid hxw
                  have hjN : j < t.N := by rw [HT.out.1]; omega
                  have HJ := Lib.hid hjN
                  clear hGt hw hxw hz hGs hbw hjN
                  go_wp2_with fail
                  refine (hasB_any _ _ _ x.dn j wr HXW.out.s2 HXW.out.m2).mono ?_
                  rintro e w' ⟨rfl, rfl⟩
                  obtain ⟨u, hu⟩ : ∃ u, decide ((j : Int) ∈ x.dn) = u := ⟨_, rfl⟩
                  rw [hu]
                  have HU := Lib.hid hu
                  clear hu
                  go_wp2_with fail
                  refine (setNode_any g2 b2 t wr HGt.out j (!u)).mono ?_
                  rintro e w6 ⟨rfl, hG6, hO6⟩
                  rw [setNode_in HJ.out] at hG6 ⊢
                  have HB6 : Hid (Below w8.heap.size w9 w6) := Lib.hid (HW.out.trans (below_only (Below.refl _ _) hO6 hg2w (Nat.le_trans hw8 HW.out.size)))
                  have HG6 := Lib.hid hG6
                  clear hG6 hO6
                  go_wp2_with fail
                  go_roundw
                  case rel =>
                    refine ⟨j, _, by omega, rfl, HG6.out, HT, HLi, Lib.hid (fun i h1 h2 => ?_), HB6.out⟩
                    show put t.al j (!u) i = _
                    by_cases e : i = j
                    · subst e; rw [put_same, HU.out]
                    · rw [put_other e]; exact HAl.out i (by omega) h2
                  case measure => simp [intOf]
            · have hz : ((j + 1 : Nat) : Int) - 1 = (j : Int) := by omega
              rw [hz]
              have z3 : wr.cell? ⟨w.heap.size, 3, none⟩ = some (.slice x.A3 x.n3 x.c3) := (hw.cell (p := ⟨w.heap.size, 3, none⟩) hwl).trans hy3
              have HGt := Lib.hid hGt
              have HW := Lib.hid hw
              have HXW := Lib.hid hxw
              have hjM : j < t.L.length := by rw [HT.out.2, ← HLen.out]; omega
              have HJ := Lib.hid hjM
              clear hGt hw hxw hz hjM
              go_wp2_with fail
              refine (hasB_any _ _ _ x.dl j wr HXW.out.s3 HXW.out.m3).mono ?_
              rintro e w' ⟨rfl, rfl⟩
              obtain ⟨u, hu⟩ : ∃ u, decide ((j : Int) ∈ x.dl) = u := ⟨_, rfl⟩
              rw [hu]
              have HU := Lib.hid hu
              clear hu
              go_wp2_with fail
              refine (setLink_any g2 b2 t wr HGt.out j (!u)).mono ?_
              rintro e w6 ⟨rfl, hG6, hO6⟩
              rw [setLink_in HJ.out] at hG6 ⊢
              have HB6 : Hid (Below w8.heap.size w9 w6) := Lib.hid (HW.out.trans (below_only (Below.refl _ _) hO6 hg2w (Nat.le_trans hw8 HW.out.size)))
              have HG6 := Lib.hid hG6
              clear hG6 hO6
              go_wp2_with fail
              go_roundw
              case rel =>
                refine ⟨j, _, by omega, rfl, HG6.out, HT, Lib.hid (fun i h1 h2 => ?_), HB6.out⟩
                show put t.li j (!u) i = _
                by_cases e : i = j
                · subst e; rw [put_same, HU.out]
                · rw [put_other e]; exact HLi.out i (by omega) h2
              case measure => simp [intOf]

end Go.Proofs.Ytfmjcjkifjndgaa
