/- Graphs: the walk of the iterator. -/
import Derived.Test.YtfmjcjkifjndgaaToG
import Derived.Deep.LoopGhost
namespace Go.Proofs.Ytfmjcjkifjndgaa
open Go.RowKit Go.Shelf
set_option linter.unusedVariables false
set_option linter.unusedSimpArgs false
set_option maxRecDepth 100000

attribute [local go_sem] Oper.semAt_some

/-- The memory of a walk: the graph, the two boxes, the set of those found, the queue. -/
structure IW (Bg Bn fd g b : Nat) (s : GS) (n : Nat) (q : List Nat) (F : Nat → Bool) (gq oq cq : Nat) (wr : World) : Prop where
  gr : Gr wr g b s
  bg : Has wr Bg 27 #[.pointer (some ⟨g, 0, none⟩)]
  bn : Has wr Bn 3 #[.int .i64 (n : Int)]
  fdd : ∃ x0 x1 : Int, Has wr fd 48 #[.int .u64 x0, .int .u64 x1] ∧ Bs x0 x1 F
  qu : Que wr (fd + 1) gq oq cq q
theorem IW.below {Bg Bn fd g b : Nat} {s : GS} {n : Nat} {q : List Nat} {F : Nat → Bool} {gq oq cq : Nat} {wr w' : World} (h : IW Bg Bn fd g b s n q F gq oq cq wr) (hb : Below wr.heap.size wr w') : IW Bg Bn fd g b s n q F gq oq cq w' := by
  obtain ⟨x0, x1, h1, h2⟩ := h.fdd
  exact ⟨h.gr.below hb, h.bg.below hb, h.bn.below hb, ⟨x0, x1, h1.below hb, h2⟩, h.qu.keep fun cur hc => hc.below hb⟩
theorem IW.keep3 {n₀ R Bg Bn fd g b : Nat} {s : GS} {n : Nat} {q : List Nat} {F : Nat → Bool} {gq oq cq : Nat} {wr w' : World} (h : IW Bg Bn fd g b s n q F gq oq cq wr) (hk : Keep3 n₀ R wr w') (hg : ∀ A B, Below n₀ A B → Gr A g b s → Gr B g b s) (h1 : Bg ≠ R) (h2 : Bn ≠ R) (h3 : R < fd) : IW Bg Bn fd g b s n q F gq oq cq w' := by
  obtain ⟨x0, x1, h4, h5⟩ := h.fdd
  have := h.qu.lo
  exact ⟨hg _ _ hk.1 h.gr, hk.2 _ _ _ h1 h.bg, hk.2 _ _ _ h2 h.bn, ⟨x0, x1, hk.2 _ _ _ (by omega) h4, h5⟩, h.qu.keep fun cur hc => hk.2 _ _ _ (by omega) hc⟩

theorem IW.move {n₀ Bg Bn fd g b : Nat} {s : GS} {n : Nat} {q q' : List Nat} {F F' : Nat → Bool} {gq oq cq gq' oq' cq' : Nat} {A B : World} (h : IW Bg Bn fd g b s n q F gq oq cq A) (hb : Below fd A B) (hn : n₀ ≤ fd) (hkeep : ∀ A B, Below n₀ A B → Gr A g b s → Gr B g b s) (h1 : Bg < fd) (h2 : Bn < fd)
    (hf : ∃ x0 x1 : Int, Has B fd 48 #[.int .u64 x0, .int .u64 x1] ∧ Bs x0 x1 F') (hq : Que B (fd + 1) gq' oq' cq' q') : IW Bg Bn fd g b s n q' F' gq' oq' cq' B :=
  ⟨hkeep _ _ (hb.mono hn) h.gr, (hb.block _ h1).trans h.bg, (hb.block _ h2).trans h.bn, hf, hq⟩

/-- What stands at the head of the walk's loop. -/
def OutR (Bg Bn fd g b : Nat) (s : GS) (n : Nat) (J : List N7 → World → Prop) (k : Nat) (v : Value) (wr : World) : Prop :=
  ∃ ys q F gq oq cq, v = .slice (some ⟨gq, oq, none⟩) q.length cq ∧ BI s n (ys.map (·.1)) q F ∧ IW Bg Bn fd g b s n q F gq oq cq wr ∧ J ys wr ∧ k = q.length + cnt F s.N

/-- What stands at the head of the loop over the neighbors of c. -/
def InR (Bg Bn fd g b : Nat) (s : GS) (n : Nat) (J : List N7 → World → Prop) (ys : List N7) (c : N7) (E : List ED) (K0 Be q1 : Nat) (A1 : Option Addr) (c1 : Nat) (k : Nat) (v : Value) (wr : World) : Prop :=
  ∃ r F gq oq cq m, v = .slice (some ⟨gq, oq, none⟩) m cq ∧ m = r.length + 1 ∧ BJ s n (ys.map (·.1)) c.1 r F k ∧ IW Bg Bn fd g b s n (c.1 :: r) F gq oq cq wr ∧ J (ys ++ [c]) wr ∧ wr.ownsRow Be 74 3 (.slice A1 q1 c1) q1 (flatE E) ∧ r.length + 1 + cnt F s.N = K0

set_option maxHeartbeats 2000000 in
theorem reach1_in (l Bg Bn n₀ R g b : Nat) (s : GS) (n : Nat) (hal : s.al n = true) (J : List N7 → World → Prop) (W : World) (hgr : Gr W g b s) (hkeep : ∀ A B, Below n₀ A B → Gr A g b s → Gr B g b s) (hbg : Has W Bg 27 #[.pointer (some ⟨g, 0, none⟩)]) (hbn : Has W Bn 3 #[.int .i64 (n : Int)]) (hn0 : n₀ ≤ W.heap.size) (h1 : Bg ≠ R) (h2 : Bn ≠ R) (h3 : R < W.heap.size)
    (hJ : ∀ s A B, J s A → Below W.heap.size A B → J s B)
    (hY : ∀ pre x W1, J pre W1 → pre.length < 128 → YieldAt Fence.wide (3 - 1) Try.prog l (n7E x) W1 fun e W' => e = .returned (.bool true) ∧ J (pre ++ [x]) W' ∧ Keep3 n₀ R W1 W') (h0 : J [] W) :
    CallsIn Fence.wide 3 Try.prog 66 #[.func (.yield l) #[] #[], .pointer (some ⟨Bg, 0, none⟩), .pointer (some ⟨Bn, 0, none⟩)] W fun en W' => (∃ v, en = .returned v) ∧ ∃ ys : List N7, (∀ m, m ∈ ys.map (·.1) ↔ Rch s n m) ∧ J ys W' := by
  refine callsIn_of_wp Try.func66 rfl trivial ?_ rfl
  simp only [Try.ntmps66, List.size_toArray, List.length_cons, List.length_nil, Nat.reduceAdd, Nat.reduceSub, Array.replicate_succ, Array.replicate_zero, List.push_toArray, List.append_toArray, List.nil_append, List.cons_append]
  have hok := hgr.ok
  have hnN : n < s.N := hok.alN n hal
  have hN32 := hok.n32
  have HA : Hid (s.alive (n : Int) = true) := Lib.hid (by unfold GS.alive; simp [hal])
  have HG := Lib.hid hgr
  have b0 : W.cell? ⟨Bg, 0, none⟩ = some (.pointer (some ⟨g, 0, none⟩)) := hbg.cell 0
  have b1 : W.cell? ⟨Bn, 0, none⟩ = some (.int .i64 (n : Int)) := hbn.cell 0
  have hBgl := hbg.lt
  have hBnl := hbn.lt
  have HBg := Lib.hid hbg
  have HBn := Lib.hid hbn
  have HJ := Lib.hid hJ
  have HY := Lib.hid hY
  have H0 := Lib.hid h0
  have HKp := Lib.hid hkeep
  have HOK := Lib.hid hok
  have HAL := Lib.hid hal
  clear hgr hbg hbn hJ hY h0 hkeep hok hal
  gi_wp2_with fail
  refine ⟨trivial, ?_⟩
  refine (callsIn_wide.2 (alive_any g b s W HG.out n)).mono ?_
  rintro e w' ⟨rfl, rfl⟩
  rw [HA.out]
  have hsz : (W.alloc (.cells #[.int .u64 0, .int .u64 0] 48)).heap.size = W.heap.size + 1 := by simp
  have hbW : Below W.heap.size W (W.alloc (.cells #[.int .u64 0, .int .u64 0] 48)) := (Below.refl _ W).alloc (Nat.le_refl _) _
  have HF0 : Hid (Has (W.alloc (.cells #[.int .u64 0, .int .u64 0] 48)) W.heap.size 48 #[.int .u64 0, .int .u64 0]) := Lib.hid (Has.new _ _ _)
  have HBW := Lib.hid hbW
  gi_wp2_with fail
  refine ⟨trivial, ?_⟩
  obtain ⟨W1, hW1⟩ : ∃ W1, (W.alloc (.cells #[.int .u64 0, .int .u64 0] 48)) = W1 := ⟨_, rfl⟩
  rw [hW1] at hsz HBW HF0 ⊢
  refine (callsIn_wide.2 (put_any W.heap.size 0 48 _ 0 0 (fun _ => false) n true (by omega) W1 HF0.out rfl rfl Bs.none)).mono ?_
  rintro e W2 ⟨⟨v2, rfl⟩, x0, x1, hB2, hH2, hO2⟩
  have hb2 : Below W.heap.size W W2 := below_only HBW.out hO2 (Nat.le_refl _) HBW.out.size
  have b12 : W2.cell? ⟨Bn, 0, none⟩ = some (.int .i64 (n : Int)) := (hb2.cell (p := ⟨Bn, 0, none⟩) hBnl).trans b1
  have hs2 : W.heap.size < W2.heap.size := by have := hO2.size; omega
  have hbb : Below W.heap.size W (W2.alloc (.cells #[.int .i64 (n : Int)] 3)) := hb2.alloc hb2.size _
  have HR : Hid (OutR Bg Bn W.heap.size g b s n J (1 + cnt (put (fun _ => false) n true) s.N) (.slice (some ⟨W2.heap.size, 0, none⟩) 1 1) (W2.alloc (.cells #[.int .i64 (n : Int)] 3))) :=
    Lib.hid ⟨[], [n], _, W2.heap.size, 0, 1, rfl, BI.start HAL.out hnN, ⟨HG.out.below hbb, HBg.out.below hbb, HBn.out.below hbb, ⟨x0, x1, Has.below hH2 ((Below.refl _ _).alloc (Nat.le_refl _) _), hB2⟩, Que.start W2 _ n hs2⟩, HJ.out _ _ _ H0.out hbb, rfl⟩
  clear hB2 hH2 hO2 hbb hW1 HF0 HBW hbW hsz
  gi_wp2_with fail
  gi_loopw [5] (fun v wr => ∃ k, OutR Bg Bn W.heap.size g b s n J k v wr) (fun v wr => leastOf (fun k => OutR Bg Bn W.heap.size g b s n J k v wr))
  case atStart => exact ⟨_, HR.out⟩
  case round =>
    have hls := leastOf_spec hrel
    obtain ⟨K0, hK0⟩ : ∃ K0, leastOf (fun k => OutR Bg Bn W.heap.size g b s n J k u5 wr) = K0 := ⟨_, rfl⟩
    rw [hK0] at hls
    obtain ⟨hout, _⟩ := hls
    clear hrel
    obtain ⟨ys, q, F, gq, oq, cq, rfl, hBI, hIW, hJy, hk⟩ := hout
    have HK0 := Lib.hid hK0
    clear hK0 HR
    cases q with
    | nil =>
      gi_wp2_with fail
      go_end0
      exact ⟨⟨_, rfl⟩, ys, hBI.all, hJy⟩
    | cons c r =>
      have hFc : F c = true := (hBI.mem c).2 (.inr (by simp))
      have hcN : c < s.N := HOK.out.alN c (hBI.rch c hFc).al.2
      have hbsz := hBI.size
      simp only [List.length_cons, List.length_map] at hbsz
      obtain ⟨m, hm⟩ : ∃ m, (c :: r).length = m := ⟨_, rfl⟩
      have hm2 : m = r.length + 1 := by rw [← hm]; rfl
      have hq0 : wr.cell? ⟨gq, oq, none⟩ = some (.int .i64 (c : Int)) := hIW.qu.at_ (j := 0) rfl
      have hcap := hIW.qu.cap
      have hcapm := hIW.qu.capm
      unfold maxLen at hcapm
      rw [hm] at hcap HK0 ⊢
      have HM := Lib.hid hm
      obtain ⟨fn, tmps, assign, body, hy, hR⟩ := HY.out ys ⟨c, by omega⟩ wr hJy (by omega)
      dsimp only [n7E] at hy
      have HBI := Lib.hid hBI
      have HIW := Lib.hid hIW
      have HKE := Lib.hid hk
      have hm1 : 0 < m := by omega
      have hm3 : m ≤ 32 := by omega
      have HM2 := Lib.hid hm2
      clear hBI hIW hk hFc hbsz hm hm2
      gi_wp2_with fail
      refine hR.mono ?_
      rintro e W3 ⟨rfl, hJ3, hk3⟩
      have hI3 := HIW.out.keep3 hk3 HKp.out h1 h2 h3
      have c30 : W3.cell? ⟨Bg, 0, none⟩ = some (.pointer (some ⟨g, 0, none⟩)) := hI3.bg.cell 0
      have c3q : W3.cell? ⟨gq, oq, none⟩ = some (.int .i64 (c : Int)) := hI3.qu.at_ (j := 0) rfl
      have HI3 := Lib.hid hI3
      have HJ3 := Lib.hid hJ3
      clear hI3 hJ3 hk3 hq0 hy hR hJy
      gi_wp2_with fail
      have hmix : Try.prog.follows .mixedOrders = true := by kernel_rfl
      obtain ⟨E, hE⟩ : ∃ E, s.neigh (c : Int) = E := ⟨_, rfl⟩
      obtain ⟨q1, hq1⟩ : ∃ q1, E.length = q1 := ⟨_, rfl⟩
      have HEE := Lib.hid hE
      have HQ1 := Lib.hid hq1
      clear hE hq1
      gi_region_with_o ((refine ⟨trivial, ?_⟩; refine (callsIn_wide.2 (neigh_any g b s W3.drew (HI3.out.gr.drewN 1) c)).mono ?_; rintro e W4 ⟨A1, c1, rfl, h4, h5⟩; rw [HEE.out, HQ1.out] at h4 ⊢; have H4 := Lib.hid h4; have H5 := Lib.hid h5; clear h4 h5))
      all_goals
        have hb4 : Below W3.heap.size W3 W4 := ⟨H5.out.os, H5.out.tape, H5.out.output, H5.out.size, H5.out.block⟩
        have hs3 : W.heap.size < W3.heap.size := by
          obtain ⟨y0, y1, hf, _⟩ := HI3.out.fdd
          exact hf.lt
        have HIn : Hid (InR Bg Bn W.heap.size g b s n J ys ⟨c, by omega⟩ E K0 W3.heap.size q1 A1 c1 0 (.slice (some ⟨gq, oq, none⟩) m cq) W4) :=
          Lib.hid ⟨r, F, gq, oq, cq, m, rfl, HM2.out, HBI.out.begin, HI3.out.below hb4, HJ.out _ _ _ HJ3.out (hb4.mono (by omega)), H4.out, by rw [HKE.out]; simp⟩
        have hq1 : q1 ≤ 128 := by rw [← HQ1.out, ← HEE.out]; exact Nat.le_trans (nbr_len _ _ _) HOK.out.m128
        clear hb4 c30 c3q HI3 HJ3 HIW HBI HKE HM HM2 H4 H5 hcap hcapm hm1 hm3 b1 b0 b12
        obtain ⟨wo, rfl⟩ : ∃ wo : World, wo = wr := ⟨_, rfl⟩
        gi_wp2_with fail
        gi_loopw [5, 33] (fun v i wr => ∃ k : Nat, k ≤ q1 ∧ i = .int .i64 k ∧ InR Bg Bn W.heap.size g b s n J ys ⟨c, by omega⟩ E K0 W3.heap.size q1 A1 c1 k v wr) (fun _ i _ => q1 - (intOf i).toNat)
        case atStart => exact ⟨0, Nat.zero_le _, rfl, HIn.out⟩
        case round =>
          obtain ⟨k, hk, rfl, r', F', gq', oq', cq', m', rfl, hm', hBJ, hIW', hJ', hown, hK⟩ := hrel
          clear HIn
          by_cases hlt : k < q1
          · obtain ⟨x, hx⟩ : ∃ x, E[k]? = some x := ⟨E[k]'(by rw [HQ1.out]; exact hlt), by simp [HQ1.out, hlt]⟩
            obtain ⟨ge, hge1, hge2, rfl, hce, e0, e1, e2⟩ := own_E hown HQ1.out.symm hx
            have hxE : (s.neigh (c : Int))[k]? = some x := by rw [HEE.out]; exact hx
            obtain ⟨_, hx0, hxN⟩ := edge_adj HOK.out (List.mem_of_getElem? hxE)
            obtain ⟨y, hy⟩ : ∃ y : Nat, x.n = (y : Int) := ⟨x.n.toNat, by omega⟩
            have hyt : x.n.toNat = y := by rw [hy]; simp
            have hyN : y < s.N := by rw [← hyt]; exact hxN
            rw [hy] at e1
            have hkl : (k : Int) < (q1 : Int) := by omega
            have hfl : W.heap.size < wr.heap.size := by
              obtain ⟨y0, y1, hf, _⟩ := hIW'.fdd
              exact hf.lt
            have hb5 : Below wr.heap.size wr (wr.alloc (.cells #[.int .i64 x.l, .int .i64 (y : Int), .int .i64 x.c] 74)) := (Below.refl _ wr).alloc (Nat.le_refl _) _
            have hn5 := Has.new wr 74 #[.int .i64 x.l, .int .i64 (y : Int), .int .i64 x.c]
            have hI5 := hIW'.below hb5
            have hJ5 := HJ.out _ _ _ hJ' (hb5.mono (by omega))
            have hown5 := hown.alloc (.cells #[.int .i64 x.l, .int .i64 (y : Int), .int .i64 x.c] 74)
            have n1 : (wr.alloc (.cells #[.int .i64 x.l, .int .i64 (y : Int), .int .i64 x.c] 74)).cell? ⟨wr.heap.size, 1, none⟩ = some (.int .i64 (y : Int)) := hn5.cell 1
            have HBJ := Lib.hid hBJ
            have HXE := Lib.hid hxE
            have HYT := Lib.hid hyt
            have HKK := Lib.hid hK
            have HMM := Lib.hid hm'
            have HI5 := Lib.hid hI5
            have HJ5 := Lib.hid hJ5
            have HO5 := Lib.hid hown5
            have HN5 := Lib.hid hn5
            have hbsz := hBJ.size
            rw [List.length_map] at hbsz
            have hcap' := hIW'.qu.cap
            simp only [List.length_cons] at hcap'
            clear hBJ hxE hyt hK hm' hI5 hJ5 hown5 hn5 hb5 hIW' hJ' hown hx hxN hx0 hy
            gi_wp2_with fail
            refine ⟨trivial, ?_⟩
            obtain ⟨W5, hW5⟩ : ∃ W5, (wr.alloc (.cells #[.int .i64 x.l, .int .i64 (y : Int), .int .i64 x.c] 74)) = W5 := ⟨_, rfl⟩
            rw [hW5] at n1 HI5 HJ5 HO5 HN5 ⊢
            obtain ⟨y0, y1, hf5, hB5⟩ := HI5.out.fdd
            refine (callsIn_wide.2 (has_any W.heap.size 0 F' y (by omega) W5 ⟨y0, y1, hf5.cell 0, hf5.cell 1, hB5⟩)).mono ?_
            rintro e W5' ⟨rfl, rfl⟩
            cases hF : F' y
            · have HF := Lib.hid hF
              have HF5 := Lib.hid hf5
              have HB5 := Lib.hid hB5
              clear hF hf5 hB5 hW5 e0 e1 e2
              gi_wp2_with fail
              refine ⟨trivial, ?_⟩
              refine (callsIn_wide.2 (put_any W.heap.size 0 48 _ y0 y1 F' y true (by omega) W5 HF5.out rfl rfl HB5.out)).mono ?_
              rintro e W6 ⟨⟨v6, rfl⟩, z0, z1, hB6, hH6, hO6⟩
              have hw5 : wr.heap.size < W5.heap.size := HN5.out.lt
              have hN6 : Has W6 wr.heap.size 74 #[.int .i64 x.l, .int .i64 (y : Int), .int .i64 x.c] := HN5.out.grown hO6 (by intro h9; injection h9 with h9; omega)
              have n61 : W6.cell? ⟨wr.heap.size, 1, none⟩ = some (.int .i64 (y : Int)) := hN6.cell 1
              have hb6 : Below W.heap.size W5 W6 := below_only (Below.refl _ _) hO6 (Nat.le_refl _) (by omega)
              have hq6 : Que W6 (W.heap.size + 1) gq' oq' cq' (c :: r') := HI5.out.qu.keep fun cur hc => hc.grown hO6 (by have := HI5.out.qu.lo; intro h9; injection h9 with h9; omega)
              have ho6 : W6.ownsRow W3.heap.size 74 3 (.slice (some ⟨ge, 0, none⟩) q1 c1) q1 (flatE E) := HO5.out.kept hO6 (.inr (own_not HF5.out (by decide) HO5.out))
              have hb7 : Below W6.heap.size W6 (W6.alloc (.cells #[.int .i64 (y : Int)] 3)) := (Below.refl _ _).alloc (Nat.le_refl _) _
              have hq7 := hq6.keep (w' := W6.alloc (.cells #[.int .i64 (y : Int)] 3)) fun cur hc => hc.below hb7
              have ho7 := ho6.alloc (.cells #[.int .i64 (y : Int)] 3)
              have hs6 : W.heap.size < W6.heap.size := by have := hb6.size; omega
              have hf7 : Has (W6.alloc (.cells #[.int .i64 (y : Int)] 3)) W.heap.size 48 #[.int .u64 z0, .int .u64 z1] := Has.below hH6 hb7
              have hb57 : Below W.heap.size W5 (W6.alloc (.cells #[.int .i64 (y : Int)] 3)) := hb6.trans (hb7.mono (by omega))
              have HQ7 := Lib.hid hq7
              have HO7 := Lib.hid ho7
              have HF7 := Lib.hid hf7
              have HB57 := Lib.hid hb57
              have HB6 := Lib.hid hB6
              clear hH6 hO6 hB6 hN6 hb6 hq6 ho6 hb7 hq7 ho7 hf7 hb57
              gi_wp2_with (gi_at_builtin; refine wpListIn_push rfl (.tmp 44) (.tmp 47) rfl HQ7.out m' (by rw [HMM.out]; rfl) (by simp; omega) rfl ⟨W6.heap.size, 0, none⟩ y rfl (laid_block W6 _ _) (by simp; omega) ?_; intro g8 o8 c8 W8 hq8 hg8; have HQ8 := Lib.hid hq8; have HG8 := Lib.hid hg8; clear hq8 hg8)
              have hlo := HQ7.out.lo
              have hb8 : Below W.heap.size W5 W8 := grown_below HB57.out HG8.out (fun r hr => by injection hr with hr; omega) (by simp; omega)
              have hfd8 : Has W8 W.heap.size 48 #[.int .u64 z0, .int .u64 z1] := HF7.out.grown HG8.out (by intro h9; injection h9 with h9; omega)
              have ho8 : W8.ownsRow W3.heap.size 74 3 (.slice (some ⟨ge, 0, none⟩) q1 c1) q1 (flatE E) := by
                obtain ⟨cur, hcur, _⟩ := HQ7.out.blk
                exact HO7.out.kept HG8.out (.inr (own_not hcur (by decide) HO7.out))
              have HR8 : Hid (InR Bg Bn W.heap.size g b s n J ys ⟨c, by omega⟩ E K0 W3.heap.size q1 (some ⟨ge, 0, none⟩) c1 (k + 1) (.slice (some ⟨g8, o8, none⟩) (m' + 1) c8) W8) := by
                refine Lib.hid ⟨r' ++ [y], put F' y true, g8, o8, c8, m' + 1, rfl, by rw [HMM.out]; simp, ?_, HI5.out.move hb8 hn0 HKp.out hBgl hBnl ⟨z0, z1, hfd8, HB6.out⟩ HQ8.out, HJ.out _ _ _ HJ5.out hb8, ho8, ?_⟩
                · have := HBJ.out.add HOK.out HXE.out (by rw [HYT.out]; exact HF.out)
                  rw [HYT.out] at this
                  exact this
                · have := cnt_put hyN HF.out
                  have h9 := HKK.out
                  simp only [List.length_append, List.length_singleton]
                  omega
              clear hb8 hfd8 ho8 hlo
              gi_wp2_with fail
              go_roundw
              case rel => exact ⟨k + 1, by omega, by go_num, HR8.out⟩
              case measure => simp [intOf]; omega
            · have HR5 : Hid (InR Bg Bn W.heap.size g b s n J ys ⟨c, by omega⟩ E K0 W3.heap.size q1 (some ⟨ge, 0, none⟩) c1 (k + 1) (.slice (some ⟨gq', oq', none⟩) m' cq') W5) :=
                Lib.hid ⟨r', F', gq', oq', cq', m', rfl, HMM.out, HBJ.out.skip HXE.out (by rw [HYT.out]; exact hF), HI5.out, HJ5.out, HO5.out, HKK.out⟩
              clear hF hf5 hB5 hW5 e0 e1 e2
              gi_wp2_with fail
              go_roundw
              case rel => exact ⟨k + 1, by omega, by go_num, HR5.out⟩
              case measure => simp [intOf]; omega
          · obtain rfl : k = q1 := by omega
            have hfin : BI s n ((ys ++ [(⟨c, by omega⟩ : N7)]).map (·.1)) r' F' := by
              have := hBJ.finish HOK.out (by rw [HEE.out, HQ1.out]; exact Nat.le_refl _)
              simpa using this
            have HFin := Lib.hid hfin
            have HII := Lib.hid hIW'
            have HJJ := Lib.hid hJ'
            have HMM := Lib.hid hm'
            have HKK := Lib.hid hK
            have hcap' := hIW'.qu.cap
            simp only [List.length_cons] at hcap'
            have hcapm' := hIW'.qu.capm
            unfold maxLen at hcapm'
            have hm1 : 1 ≤ m' := by omega
            have hm2 : m' ≤ cq' := by omega
            clear hfin hBJ hIW' hJ' hown hK hm' hcap'
            by_cases hc1 : cq' = 1
            · subst hc1
              obtain rfl : m' = 1 := by omega
              obtain ⟨rfl, hq⟩ := HII.out.qu.cut0
              have HRo : Hid (OutR Bg Bn W.heap.size g b s n J (0 + cnt F' s.N) (.slice (some ⟨gq', oq', none⟩) 0 0) wr) :=
                Lib.hid ⟨_, [], F', gq', oq', 0, rfl, HFin.out, ⟨HII.out.gr, HII.out.bg, HII.out.bn, HII.out.fdd, hq⟩, HJJ.out, rfl⟩
              have hlo := (leastOf_spec (p := fun k => OutR Bg Bn W.heap.size g b s n J k (.slice (some ⟨gq', oq', none⟩) 0 0) wr) ⟨_, HRo.out⟩).2 _ HRo.out
              have HLo := Lib.hid hlo
              clear hq hlo
              gi_wp2_with fail
              go_roundw
              case rel => exact ⟨_, HRo.out⟩
              case measure => 
                have h9 := HKK.out
                simp only [List.length_nil] at h9
                exact Nat.lt_of_le_of_lt HLo.out (by rw [HK0.out]; omega)
            · have hc2 : 1 < cq' := by omega
              have hq := HII.out.qu.cut1 hc2
              have HRo : Hid (OutR Bg Bn W.heap.size g b s n J (r'.length + cnt F' s.N) (.slice (some ⟨gq', oq' + 1, none⟩) (m' - 1) (cq' - 1)) wr) :=
                Lib.hid ⟨_, r', F', gq', oq' + 1, cq' - 1, by rw [HMM.out]; simp, HFin.out, ⟨HII.out.gr, HII.out.bg, HII.out.bn, HII.out.fdd, hq⟩, HJJ.out, rfl⟩
              have hlo := (leastOf_spec (p := fun k => OutR Bg Bn W.heap.size g b s n J k (.slice (some ⟨gq', oq' + 1, none⟩) (m' - 1) (cq' - 1)) wr) ⟨_, HRo.out⟩).2 _ HRo.out
              have HLo := Lib.hid hlo
              clear hq hlo
              gi_wp2_with fail
              go_roundw
              case rel => exact ⟨_, HRo.out⟩
              case measure => 
                have h9 := HKK.out
                exact Nat.lt_of_le_of_lt HLo.out (by rw [HK0.out]; omega)

end Go.Proofs.Ytfmjcjkifjndgaa
