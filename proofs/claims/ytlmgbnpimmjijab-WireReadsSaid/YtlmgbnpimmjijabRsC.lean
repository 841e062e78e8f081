/- WireReads: the walk. -/
import Derived.Test.YtlmgbnpimmjijabRsB
import Derived.Test.YtlmgbnpimmjijabFaA
import Derived.Test.YtlmgbnpimmjijabBkA
import Derived.Deep.DeepCutAuto
import Derived.Deep.CutBlock
namespace Go.Proofs.Ytlmgbnpimmjijab
open Go.RowKit
set_option linter.unusedVariables false
set_option maxRecDepth 100000

/-- While the argument's copy is overwritten. -/
structure Ow (w : World) (g1 h1 c1 o1 H C hin n : Nat) (xs : List Int) (W : World) : Prop where
  a : RdS W g1 h1 c1 ⟨xs, 0, 0, 0, 0⟩
  b : Os W o1 H C xs ⟨xs, 0, 0, 0, 0⟩
  bel : Below w.heap.size w W
  own : ∃ cur, Has W hin 5 cur ∧ n ≤ cur.size
  lin : w.heap.size ≤ hin
  n1 : g1 ≠ hin
  n2 : h1 ≠ hin
  n3 : o1 ≠ hin
  n4 : H ≠ hin
  lg1 : w.heap.size ≤ g1
  lo1 : w.heap.size ≤ o1

theorem Ow.set {w W : World} {g1 h1 c1 o1 H C hin n k : Nat} {xs : List Int} (K : Ow w g1 h1 c1 o1 H C hin n xs W) (u : Value) : Ow w g1 h1 c1 o1 H C hin n xs (W.setCell ⟨hin, k, none⟩ u) := by
  have ho : Only W hin (W.setCell ⟨hin, k, none⟩ u) := only_set (only_refl W hin) (.inl rfl) u
  obtain ⟨cur, hh, hn⟩ := K.own
  have ha : Rd W g1 h1 c1 xs 0 0 0 0 := K.a
  exact ⟨ha.grown ho (by intro he; injection he with he; exact K.n1 he) (by intro he; injection he with he; exact K.n2 he),
    ⟨K.b.rf.grown ho (by intro he; injection he with he; exact K.n3 he) (by intro he; injection he with he; exact K.n4 he), K.b.part, K.b.lo, K.b.ea⟩,
    below_only K.bel ho K.lin K.bel.size, ⟨_, hh.set_ k u, by simpa using hn⟩, K.lin, K.n1, K.n2, K.n3, K.n4, K.lg1, K.lo1⟩

theorem take_small {w : World} {g h cap : Nat} {s : RS} (H : RdS w g h cap s) (n : Int) : ((s.take n).1.getD []).length ≤ 1000000 := by
  have h1 := H.small
  rcases three s n with h0 | ⟨h0, h2⟩ | ⟨h0, k, hk, h2⟩
  · rw [take_a n h0]; simp
  · rw [take_b n h0 h2]; simp
  · subst hk
    rw [take_c k h0 h2]
    simp
    omega

theorem got_ref {w8 w9 : World} {B : Nat} {v : Value} {ys : List Int} {o H C : Nat} {xs : List Int} {t : RS} (h : Got w8 B v ys) (hb : Os w8 o H C xs t) (ho : Only w8 o w9) : Got w9 B v ys := by
  rcases h with h0 | ⟨h', c', h3, h4, h5⟩
  · exact .inl h0
  · refine .inr ⟨h', c', h3, h4.grown ho ?_, h5⟩
    intro he
    injection he with he
    obtain ⟨cur, hh, _⟩ := h4
    exact hh.unlike hb.rf.blk (by decide) he

theorem RI.all {w W : World} {g1 h1 c1 o1 g h c o H C : Nat} {xs : List Int} {s1 s t1 t : RS} (R : RI w g1 h1 c1 o1 g h c o H C xs s1 s t1 t W) : W.cell? ⟨o, 1, none⟩ = some (.int .i64 (t.p : Int)) ∧ W.cell? ⟨o, 3, none⟩ = some (.int .i64 t.ef) ∧ W.cell? ⟨o, 4, none⟩ = some (.int .i64 t.ea) ∧ RI w g1 h1 c1 o1 g h c o H C xs s1 s t1 t W :=
  ⟨R.b.rf.c1, R.b.rf.c3, R.b.rf.c4, R⟩

theorem RI.sub2 {w W w8 w9 : World} {g1 h1 c1 o1 g h c o H C g2 h2 c2 o2 : Nat} {xs : List Int} {s1 s t1 t s' t' s2 t2 : RS} (R : RI w g1 h1 c1 o1 g h c o H C xs s1 s t1 t W) (hr : RdS w8 g h c s') (ho : Only W g w8) (hs : RdS w8 g2 h2 c2 s2) (hg2 : W.heap.size ≤ g2)
    (hos : Os w9 o H C xs t') (ho9 : Only w8 o w9) (hq : Os w9 o2 H C xs t2) (ho2 : w8.heap.size ≤ o2) : RI w g1 h1 c1 o1 g2 h2 c2 o2 H C xs (upd g g1 s1 s') s2 (upd o o1 t1 t') t2 w9 := by
  have R8 := R.wire hr ho
  have R9 := R8.ref hos ho9
  have hd : Rd w8 g2 h2 c2 s2.bs s2.st s2.p s2.ef s2.ea := hs
  have hs9 : RdS w9 g2 h2 c2 s2 := hd.grown ho9 (by intro he; injection he with he; exact R8.b.rf.blk.unlike hd.blk (by decide) he.symm) (by
    intro he
    injection he with he
    obtain ⟨cur, hh, _⟩ := hd.row
    exact hh.unlike R8.b.rf.blk (by decide) he)
  have l1 : g1 < W.heap.size := Has.lt (Rd.blk R.a1)
  have l2 : o1 < w8.heap.size := R8.b1.rf.blk.lt
  exact R9.take hs9 hq (by omega) (by omega) (Nat.le_trans R.bel.size hg2) (Nat.le_trans R8.bel.size ho2)

set_option maxHeartbeats 4000000 in
theorem reads_walk (v v3 : Value) (xs : List Int) (ks : List (Int × Int)) (w : World) (hx : Arr w v xs) (hk : Pairs w v3 ks) (h1 : xs.length ≤ 400) (h2 : ks.length ≤ 60) (hr : ∀ u ∈ xs, 0 ≤ u ∧ u ≤ 255) :
    Calls Try.prog 5 #[v, v3] w fun e w' => e = .returned (.bool true) ∧ Below w.heap.size w w' := by
  obtain ⟨A, c, rfl⟩ := hx.form
  have hk3 : ∃ A3 c3, v3 = .slice A3 ks.length c3 := by
    rcases hk with ⟨rfl, rfl⟩ | ⟨ad, c3, h, _⟩
    · exact ⟨none, 0, rfl⟩
    · exact ⟨_, c3, h⟩
  obtain ⟨A3, c3, rfl⟩ := hk3
  have HX := Lib.hid hx
  have HK := Lib.hid hk
  have HR := Lib.hid hr
  have hd1 : decide ((400 : Int) < (xs.length : Int)) = false := by simp; omega
  have hd2 : decide ((60 : Int) < (ks.length : Int)) = false := by simp; omega
  clear hx hk hr
  go_enter Try.func5, Try.ntmps5
  go_wp2_with fail
  refine (lives_any _).mono ?_
  rintro en w1 ⟨rfl, hb1⟩
  have HB1 := Lib.hid hb1
  clear hb1
  go_wp2_with fail
  refine (own_any _ xs _ (HX.out.below HB1.out) (by omega)).mono ?_
  rintro en w2 ⟨⟨hin, cin, rfl, hrow, hhin⟩, hb2⟩
  have HB2 := Lib.hid (HB1.out.trans (hb2.mono HB1.out.size))
  have HW2 : Hid (Row w2 hin cin xs ∧ w.heap.size ≤ hin) := Lib.hid ⟨hrow, Nat.le_trans HB1.out.size hhin⟩
  clear hrow hhin hb2 HB1
  go_wp2_with fail
  refine (rnew ⟨hin, 0, none⟩ _ cin xs rfl (by omega) _ (Sl.at_ (Row.all HW2.out.1)) HR.out).mono ?_
  rintro en w3 ⟨g1, h1', c1, rfl, hg1, hh1, hrd, hb3⟩
  have HJ : Hid (RdS w3 g1 h1' c1 ⟨xs, 0, 0, 0, 0⟩ ∧ Row w3 hin cin xs ∧ w2.heap.size ≤ g1 ∧ w2.heap.size ≤ h1' ∧ hin < w2.heap.size) := Lib.hid ⟨hrd, HW2.out.1.below hb3, hg1, hh1, by
    obtain ⟨cur, hh, _⟩ := HW2.out.1
    exact hh.lt⟩
  have HB3 := Lib.hid (HB2.out.trans (hb3.mono HB2.out.size))
  have HS : Hid (w2.heap.size ≤ w3.heap.size) := Lib.hid hb3.size
  clear hrd hg1 hh1 hb3
  go_wp2_with fail
  refine (fnewA _ xs _ (HX.out.below HB3.out) (by omega) HR.out).mono ?_
  rintro en w4 ⟨o1, H, C, rfl, ho1, hH, hrf, hb4⟩
  have HO : Hid (Ow w g1 h1' c1 o1 H C hin xs.length xs w4) := Lib.hid (by
    obtain ⟨j1, j2, j3, j4, j5⟩ := HJ.out
    obtain ⟨cur, hh, hs, ht, hl, _⟩ := j2
    have hb := HB2.out.size
    have hs3 := HS.out
    exact ⟨Rd.below j1 hb4, Os.new hrf, HB3.out.trans (hb4.mono HB3.out.size), ⟨cur, hh.below hb4, by omega⟩, HW2.out.2, by omega, by omega, by omega, by omega, by omega, by omega⟩)
  clear ho1 hH hrf hb4 HJ HS HB3 HB2 HW2
  go_wp2_with fail
  go_loopw [8] (fun i wr => ∃ k : Nat, k ≤ xs.length ∧ i = .int .i64 k ∧ Ow w g1 h1' c1 o1 H C hin xs.length xs wr) (fun i _ => xs.length - (intOf i).toNat)
  case atStart => exact ⟨0, Nat.zero_le _, rfl, HO.out⟩
  case round =>
    obtain ⟨k, hk, rfl, how⟩ := hrel
    clear HO
    by_cases hlt : k < xs.length
    · obtain ⟨cur, hh, hn⟩ := how.own
      have hfree := hh.free k
      have hcell : wr.cell? ⟨hin, k, none⟩ = some cur[k] := by rw [hh.cell k]; simp
      have HO := Lib.hid how
      clear how hh
      go_wp2_with fail
      exact ⟨⟨k + 1, by omega, by go_num, HO.out.set _⟩, by simp [intOf]; omega⟩
    · have hke : k = xs.length := by omega
      subst hke
      have HO := Lib.hid how
      clear how
      go_wp2_with fail
      have HI : Hid (RI w g1 h1' c1 o1 g1 h1' c1 o1 H C xs ⟨xs, 0, 0, 0, 0⟩ ⟨xs, 0, 0, 0, 0⟩ ⟨xs, 0, 0, 0, 0⟩ ⟨xs, 0, 0, 0, 0⟩ wr) := Lib.hid ⟨HO.out.a, HO.out.a, HO.out.b, HO.out.b, .inl ⟨rfl, rfl, rfl, rfl, rfl, rfl⟩, HO.out.lg1, HO.out.lg1, HO.out.lo1, HO.out.lo1, HO.out.bel⟩
      clear HO hlt hk
      go_loopw [9, 10, 11] (fun v9 v10 i wr => ∃ (k g h c o : Nat) (s s1 : RS), k ≤ ks.length ∧ v9 = .pointer (some ⟨g, 0, none⟩) ∧ v10 = .pointer (some ⟨o, 0, none⟩) ∧ i = .int .i64 k ∧ RI w g1 h1' c1 o1 g h c o H C xs s1 s s1 s wr) (fun _ _ i _ => ks.length - (intOf i).toNat)
      case atStart => exact ⟨0, g1, h1', c1, o1, _, _, Nat.zero_le _, rfl, rfl, rfl, HI.out⟩
      case round =>
        obtain ⟨k, g, h, c, o, s, s1, hk, rfl, rfl, rfl, hri⟩ := hrel
        clear HI
        by_cases hlt : k < ks.length
        · obtain ⟨ad, c3', hA3, hcells⟩ : ∃ ad c, Value.slice A3 ks.length c3 = .slice (some ad) ks.length c ∧ ∀ i (hi : i < ks.length), w.cell? (ad.add (i * 2)) = some (.int .i64 ks[i].1) ∧ w.cell? (ad.add (i * 2 + 1)) = some (.int .i64 ks[i].2) := by
            rcases HK.out with ⟨_, h0⟩ | h0
            · rw [h0] at hlt; simp at hlt
            · exact h0
          injection hA3 with hA3 _ hcap
          subst hA3
          subst hcap
          obtain ⟨b3, o3, spot⟩ := ad
          have hspot : spot = none := by
            have h0 := (hcells 0 (by omega)).1
            simpa [Addr.add] using World.cell?_spot h0
          subst hspot
          have hw1 : w.cell? ⟨b3, o3 + k * 2 + 1, none⟩ = some (.int .i64 ks[k].2) := by
            have h0 := (hcells k hlt).2
            unfold Addr.add at h0
            rw [if_neg (by omega)] at h0
            rw [Nat.add_assoc]; exact h0
          have hlb := cell_block hw1
          have hk0 : wr.cell? ⟨b3, o3 + k * 2, none⟩ = some (.int .i64 ks[k].1) := by
            have h0 := (hcells k hlt).1
            have h2 : w.cell? ⟨b3, o3 + k * 2, none⟩ = some (.int .i64 ks[k].1) := by
              unfold Addr.add at h0
              by_cases hz : k * 2 = 0
              · rw [hz] at h0 ⊢; simpa using h0
              · rw [if_neg hz] at h0; exact h0
            exact (hri.bel.cell (p := ⟨b3, o3 + k * 2, none⟩) hlb).trans h2
          obtain ⟨x, hx⟩ : ∃ x, ks[k].1 = x := ⟨_, rfl⟩
          obtain ⟨y, hy⟩ : ∃ y, ks[k].2 = y := ⟨_, rfl⟩
          rw [hx] at hk0
          rw [hy] at hw1
          have HW := Lib.hid (And.intro hw1 hlb)
          have HI := Lib.hid hri
          clear hri hcells hx hy hw1 hlb
          go_wp2_with fail
          refine (pick_any x 11 (by omega) (by omega) _).mono ?_
          rintro en wr' ⟨rfl, rfl⟩
          have hp0 := Int.emod_nonneg x (show (11 : Int) ≠ 0 by omega)
          have hp1 := Int.emod_lt_of_pos x (show (0 : Int) < 11 by omega)
          obtain ⟨m, hm⟩ : ∃ m : Nat, x % 11 = m := ⟨(x % 11).toNat, by omega⟩
          rw [hm] at hp0 hp1 ⊢
          have hm11 : m < 11 := by omega
          clear hm hp0 hp1 hk0
          go_upto_block 4 with fail
          go_cut [9, 10, 13] (fun v9 v10 v13 wx => ∃ (g h c o : Nat) (s s1 : RS), v9 = .pointer (some ⟨g, 0, none⟩) ∧ v10 = .pointer (some ⟨o, 0, none⟩) ∧ v13 = .bool true ∧ RI w g1 h1' c1 o1 g h c o H C xs s1 s s1 s wx)
          case first =>
            by_cases hm6 : m < 6
            · go_wp2_with fail
              refine (lawget g h c s _ HI.out.a m hm6).mono ?_
              rintro en w8 ⟨rfl, hrd, ho⟩
              have HI8 := Lib.hid (HI.out.wire hrd ho)
              clear hrd ho HI HW
              go_wp2_with fail
              refine (sizes_any _).mono ?_
              rintro en w9 ⟨rfl, rfl⟩
              have hcell : (w8.alloc (.cells #[.int .i64 1, .int .i64 2, .int .i64 3, .int .i64 4, .int .i64 6, .int .i64 8] 3)).cell? ⟨w8.heap.size, m, none⟩ = some (.int .i64 ((sz m : Nat) : Int)) := by
                have h6 : m = 0 ∨ m = 1 ∨ m = 2 ∨ m = 3 ∨ m = 4 ∨ m = 5 := by omega
                rcases h6 with rfl | rfl | rfl | rfl | rfl | rfl <;> simp [go_sem, sz]
              have hs8 : sz m ≤ 8 := by
                have h6 : m = 0 ∨ m = 1 ∨ m = 2 ∨ m = 3 ∨ m = 4 ∨ m = 5 := by omega
                rcases h6 with rfl | rfl | rfl | rfl | rfl | rfl <;> simp [sz]
              have HI9 := Lib.hid (HI8.out.alloc (.cells #[.int .i64 1, .int .i64 2, .int .i64 3, .int .i64 4, .int .i64 6, .int .i64 8] 3))
              clear HI8
              go_wp2_with fail
              refine (fgetS o H C xs s _ HI9.out.b (sz m) hs8).mono ?_
              rintro en w10 ⟨rfl, hos, ho⟩
              have HI10 := Lib.hid (HI9.out.ref hos ho)
              clear hos ho HI9 hcell
              go_wp2_with fail
              go_meet
              have h9 := HI10.out
              rw [← h9.upd_same s1 _] at h9
              exact ⟨g, h, c, o, _, _, rfl, rfl, rfl, h9⟩
            · have hS : ∀ W' : World, Below w.heap.size w W' → (W'.cell? ⟨b3, o3 + k * 2 + 1, none⟩ = some (.int .i64 y) ∧ Below w.heap.size w W') := fun W' hb => ⟨(hb.cell (p := ⟨b3, o3 + k * 2 + 1, none⟩) HW.out.2).trans HW.out.1, hb⟩
              have hk1 := (hS _ HI.out.bel).1
              have hlen : ((s.take y).1.getD []).length ≤ 1000000 := take_small HI.out.a y
              by_cases hm7 : m = 6
              · subst hm7
                go_wp2_with fail
                go_region_held3 (fun w' => w'.cell? ⟨b3, o3 + k * 2 + 1, none⟩ = some (.int .i64 y) ∧ Below w.heap.size w w')
                  (first | exact hS _ HI.out.drew.bel | exact hS _ (RI.wire HI.out.drew hrd8 ho8).bel | exact hS _ ((RI.wire HI.out.drew hrd8 ho8).ref hos9 ho9).bel | exact hS _ (((RI.wire HI.out.drew hrd8 ho8).ref hos9 ho9).drewN n9).bel)
                  (first
                    | (go_at_call 26; refine (rbytes g h c s _ HI.out.drew.a y).mono ?_; rintro en w8 ⟨⟨v8, rfl, hgot8⟩, hrd8, ho8⟩)
                    | (go_at_call 42; refine (fbytesS o H C xs s _ (RI.wire HI.out.drew hrd8 ho8).b y).mono ?_; rintro en w9 ⟨⟨v9, rfl, hgot9⟩, hos9, ho9⟩)
                    | (go_at_call 38; refine (same_yes v8 v9 _ _ (got_ref hgot8 (RI.wire HI.out.drew hrd8 ho8).b ho9).arr hgot9.arr hlen).mono ?_; rintro en w10 ⟨rfl, n9, rfl⟩))
                go_wp2_with fail
                go_meet
                have h9 := ((RI.wire HI.out.drew hrd8 ho8).ref hos9 ho9).drewN n9
                rw [← h9.upd_same s1 _] at h9
                exact ⟨g, h, c, o, _, _, rfl, rfl, rfl, h9⟩
              · by_cases hm8 : m = 7
                · subst hm8
                  go_wp2_with fail
                  go_region_held3 (fun w' => w'.cell? ⟨b3, o3 + k * 2 + 1, none⟩ = some (.int .i64 y) ∧ Below w.heap.size w w')
                    (first | exact hS _ HI.out.drew.bel | exact hS _ (RI.wire HI.out.drew hrd8 ho8).bel | exact hS _ ((RI.wire HI.out.drew hrd8 ho8).ref hos9 ho9).bel)
                    (first
                      | (go_at_call 16; refine (rsub g h c s _ HI.out.drew.a y).mono ?_; rintro en w8 ⟨⟨g2, h2', c2, rfl, hg2, hh2, hsub8⟩, hrd8, ho8⟩)
                      | (go_at_call 43; refine (fsubS o H C xs s _ (RI.wire HI.out.drew hrd8 ho8).b y).mono ?_; rintro en w9 ⟨⟨o2, rfl, ho2, hsub9⟩, hos9, ho9⟩))
                  go_wp2_with fail
                  go_meet
                  have h8 := (RI.wire HI.out.drew hrd8 ho8).ref hos9 ho9
                  have h9 := HI.out.drew.sub2 hrd8 ho8 hsub8 hg2 hos9 ho9 hsub9 ho2
                  rw [← h8.upd_same s1 _] at h9
                  exact ⟨g2, h2', c2, o2, _, _, rfl, rfl, rfl, h9⟩
                · by_cases hm9 : m = 8
                  · subst hm9
                    go_wp2_with fail
                    go_meet
                    exact ⟨g1, h1', c1, o1, _, _, rfl, rfl, rfl, HI.out.back⟩
                  · by_cases hm10 : m = 9
                    · subst hm10
                      go_wp2_with fail
                      refine (rfail g h c s _ HI.out.a y).mono ?_
                      rintro en w8 ⟨rfl, hrd, ho⟩
                      have HI8 := Lib.hid (HI.out.wire hrd ho)
                      have hk2 := (hS _ HI8.out.bel).1
                      clear hrd ho HI hk1
                      go_wp2_with fail
                      refine (ffailS o H C xs s _ HI8.out.b y).mono ?_
                      rintro en w9 ⟨rfl, hos, ho⟩
                      have HI9 := Lib.hid (HI8.out.ref hos ho)
                      clear hos ho HI8 hk2
                      go_wp2_with fail
                      go_meet
                      have h9 := HI9.out
                      rw [← h9.upd_same s1 _] at h9
                      exact ⟨g, h, c, o, _, _, rfl, rfl, rfl, h9⟩
                    · have hme : m = 10 := by omega
                      subst hme
                      go_wp2_with fail
                      go_meet
                      exact ⟨g, h, c, o, _, _, rfl, rfl, rfl, HI.out⟩
          case rest =>
            obtain ⟨g', h', c', o', s', s1', rfl, rfl, rfl, hri⟩ := hcut
            have HI9 := Lib.hid hri
            have ha := hri.all
            obtain ⟨d1, d3, d4, _⟩ := ha
            clear hri HI HW
            go_wp2_with fail
            go_region_held3 (fun w' => w'.cell? ⟨o', 1, none⟩ = some (.int .i64 (s'.p : Int)) ∧ w'.cell? ⟨o', 3, none⟩ = some (.int .i64 s'.ef) ∧ w'.cell? ⟨o', 4, none⟩ = some (.int .i64 s'.ea) ∧ RI w g1 h1' c1 o1 g' h' c' o' H C xs s1' s' s1' s' w')
              (first | exact HI9.out.drew.all | (go_split_ands; exact (RI.alloc (by assumption) _).all) | (go_split_ands; exact (RI.drewN (by assumption) _).all) | (go_split_ands; exact RI.all (by assumption)) | exact ((RI.alloc HI9.out _).drewN _).all | exact ((RI.drewN HI9.out _).alloc _).all)
              (first
                | (go_at_call 19; go_split_ands; refine (rfault _ _ _ _ _ _ _ _ _ (RI.a (by assumption))).mono ?_; rintro en w' ⟨rfl, rfl⟩)
                | (go_at_call 17; go_split_ands; refine (rat _ _ _ _ _ _ _ _ _ (RI.a (by assumption))).mono ?_; rintro en w' ⟨rfl, rfl⟩)
                | (go_at_call 27; go_split_ands; refine (rleftOf _ _ _ _ _ _ _ _ _ (RI.a (by assumption))).mono ?_; rintro en w' ⟨rfl, nq, rfl⟩)
                | (go_at_call 45; go_split_ands; refine (fleftS _ _ _ _ _ _ (RI.b (by assumption))).mono ?_; rintro en w' ⟨rfl, nq2, rfl⟩))
            go_wp2_with fail
            refine ⟨⟨k + 1, g', h', c', o', s', s1', by omega, rfl, rfl, by go_num, ?_⟩, by simp [intOf]; omega⟩
            go_split_ands
            first | assumption | exact ((RI.alloc HI9.out _).drewN _) | exact ((RI.drewN HI9.out _).alloc _)
        · have hke : k = ks.length := by omega
          subst hke
          have HI := Lib.hid hri
          clear hri
          go_wp2_with fail
          go_ret
          exact ⟨rfl, HI.out.bel⟩

end Go.Proofs.Ytlmgbnpimmjijab
