/- Graphs: the law's has, edge, made, parts. -/
import Derived.Test.YtfmjcjkifjndgaaToR
import Derived.Test.YtfmjcjkifjndgaaToY
namespace Go.Proofs.Ytfmjcjkifjndgaa
open Go.RowKit
set_option linter.unusedVariables false
set_option linter.unusedSimpArgs false
set_option maxRecDepth 100000

theorem hasB_any (A : Option Addr) (n c : Nat) (xs : List Int) (m : Int) (w : World) (h : Sq w A n c 1 (ints xs)) (hm : n ≤ 9223372036854775807) :
    Calls Try.prog 37 #[.slice A n c, .int .i64 m] w fun e w' => e = .returned (.bool (decide (m ∈ xs))) ∧ w = w' := by
  have hlen : xs.length = n := by have := h.len; simpa [ints] using this
  have hcap := h.cap
  have HC := Lib.hid h.cel
  have HL := Lib.hid hlen
  clear h hlen
  go_enter Try.func37, Try.ntmps37
  go_wp2_with fail
  go_loop [5] (fun i => ∃ k : Nat, k ≤ n ∧ i = .int .i64 k ∧ Hid (∀ j : Nat, j < k → xs[j]? ≠ some m)) (fun i => n - (intOf i).toNat)
  case atStart => exact ⟨0, Nat.zero_le _, rfl, Lib.hid (fun j hj => by omega)⟩
  case round =>
    obtain ⟨k, hk, rfl, HN⟩ := hrel
    by_cases hlt : k < n
    · obtain ⟨x, hx⟩ : ∃ x, xs[k]? = some x := ⟨xs[k]'(by rw [HL.out]; exact hlt), by rw [List.getElem?_eq_getElem]⟩
      obtain ⟨b, o, rfl, _, hs⟩ := HC.out (by omega)
      have q1 : w.cell? ⟨b, o + k, none⟩ = some (.int .i64 x) := hs k _ (by simp [ints, hx])
      have hkl : (k : Int) < (n : Int) := by omega
      clear hs
      by_cases hxm : x = m
      · have hb : (x == m) = true := by simp [hxm]
        have HE : Hid (decide (m ∈ xs) = true) := Lib.hid (by simp; rw [← hxm]; exact List.mem_of_getElem? hx)
        clear hx hxm
        go_wp2_with fail
        go_ret
        exact ⟨by rw [HE.out]; rfl, rfl⟩
      · have hb : (x == m) = false := by simp [hxm]
        have HN2 : Hid (∀ j : Nat, j < k + 1 → xs[j]? ≠ some m) := Lib.hid (fun j hj => by
          by_cases e : j = k
          · subst e; rw [hx]; intro h9; injection h9 with h9; exact hxm h9
          · exact HN.out j (by omega))
        clear hx hxm
        go_wp2_with fail
        go_round
        case rel => exact ⟨k + 1, by omega, by go_num, HN2⟩
        case measure => simp [intOf]; omega
    · obtain rfl : k = n := by omega
      have HE : Hid (decide (m ∈ xs) = false) := Lib.hid (by
        simp
        intro hmem
        obtain ⟨j, hj, e⟩ := List.getElem_of_mem hmem
        exact HN.out j (by rw [HL.out] at hj; exact hj) (by rw [List.getElem?_eq_getElem hj, e]))
      go_wp2_with fail
      go_ret
      exact ⟨by rw [HE.out]; rfl, rfl⟩

theorem eql_edge (x y : ED) (w : World) : (binOp .eql 74 (.agg #[.int .i64 x.l, .int .i64 x.n, .int .i64 x.c]) (.agg #[.int .i64 y.l, .int .i64 y.n, .int .i64 y.c])).run Try.prog w = .ok (.bool (decide (x = y))) w := by
  obtain ⟨a, b, c⟩ := x
  obtain ⟨d, e, f⟩ := y
  by_cases h1 : a = d <;> by_cases h2 : b = e <;> by_cases h3 : c = f <;> simp [go_sem, h1, h2, h3]

theorem edgeB_any (A : Option Addr) (n c : Nat) (E : List ED) (y : ED) (w : World) (h : Sq w A n c 3 (flatE E)) (hm : n ≤ 1000000) :
    Calls Try.prog 38 #[.slice A n c, .agg #[.int .i64 y.l, .int .i64 y.n, .int .i64 y.c]] w fun e w' => e = .returned (.bool (decide (y ∈ E))) ∧ Below w.heap.size w w' := by
  have hlen : E.length = n := by have := h.len; rw [flatE_len] at this; omega
  have hcap := h.cap
  have HB := Lib.hid (alloc_below w (.cells #[.int .i64 y.l, .int .i64 y.n, .int .i64 y.c] 74))
  have hn := Has.new w 74 #[.int .i64 y.l, .int .i64 y.n, .int .i64 y.c]
  have y0 : (w.alloc (.cells #[.int .i64 y.l, .int .i64 y.n, .int .i64 y.c] 74)).cell? ⟨w.heap.size, 0, none⟩ = some (.int .i64 y.l) := hn.cell 0
  have y1 : (w.alloc (.cells #[.int .i64 y.l, .int .i64 y.n, .int .i64 y.c] 74)).cell? ⟨w.heap.size, 1, none⟩ = some (.int .i64 y.n) := hn.cell 1
  have y2 : (w.alloc (.cells #[.int .i64 y.l, .int .i64 y.n, .int .i64 y.c] 74)).cell? ⟨w.heap.size, 2, none⟩ = some (.int .i64 y.c) := hn.cell 2
  have HC := Lib.hid ((h.below HB.out).cel)
  have HL := Lib.hid hlen
  clear h hlen hn
  go_enter Try.func38, Try.ntmps38
  go_upto_region 1 with fail
  generalize w.alloc (.cells #[.int .i64 y.l, .int .i64 y.n, .int .i64 y.c] 74) = W1 at *
  go_wp2_with fail
  go_loopw [5] (fun i wr => ∃ k q : Nat, k ≤ n ∧ i = .int .i64 k ∧ wr = W1.drewN q ∧ Hid (∀ j : Nat, j < k → E[j]? ≠ some y)) (fun i _ => n - (intOf i).toNat)
  case atStart => exact ⟨0, 0, Nat.zero_le _, rfl, rfl, Lib.hid (fun j hj => by omega)⟩
  case round =>
    obtain ⟨k, q, hk, rfl, rfl, HN⟩ := hrel
    by_cases hlt : k < n
    · obtain ⟨x, hx⟩ : ∃ x, E[k]? = some x := ⟨E[k]'(by rw [HL.out]; exact hlt), by rw [List.getElem?_eq_getElem]⟩
      obtain ⟨b, o, rfl, _, hs⟩ := HC.out (by omega)
      obtain ⟨v0, v1, v2⟩ := E_at E k x hx
      have q0 : W1.cell? ⟨b, o + k * 3, none⟩ = some (.int .i64 x.l) := hs _ _ v0
      have q1 : W1.cell? ⟨b, o + k * 3 + 1, none⟩ = some (.int .i64 x.n) := hs _ _ v1
      have q2 : W1.cell? ⟨b, o + k * 3 + 2, none⟩ = some (.int .i64 x.c) := hs _ _ v2
      have hkl : (k : Int) < (n : Int) := by omega
      have heq := fun w => eql_edge x y w
      clear hs v0 v1 v2
      by_cases hxm : x = y
      · have hd : decide (x = y) = true := by simpa using hxm
        simp only [hd] at heq
        have HE : Hid (decide (y ∈ E) = true) := Lib.hid (by simp; rw [← hxm]; exact List.mem_of_getElem? hx)
        clear hx hxm hd
        go_wp2
        go_quiet (fail)
        go_wp2
        go_ret
        exact ⟨by rw [HE.out]; rfl, below_drewN (below_drewN HB.out q) _⟩
      · have hd : decide (x = y) = false := by simpa using hxm
        simp only [hd] at heq
        have HN2 : Hid (∀ j : Nat, j < k + 1 → E[j]? ≠ some y) := Lib.hid (fun j hj => by
          by_cases e : j = k
          · subst e; rw [hx]; intro h9; injection h9 with h9; exact hxm h9
          · exact HN.out j (by omega))
        clear hx hxm hd
        go_wp2
        go_quiet (fail)
        go_wp2
        go_roundw
        case rel => exact ⟨k + 1, _, by omega, by go_num, rfl, HN2⟩
        case measure => simp [intOf]; omega
    · obtain rfl : k = n := by omega
      have HE : Hid (decide (y ∈ E) = false) := Lib.hid (by
        simp
        intro hmem
        obtain ⟨j, hj, e⟩ := List.getElem_of_mem hmem
        exact HN.out j (by rw [HL.out] at hj; exact hj) (by rw [List.getElem?_eq_getElem hj, e]))
      go_wp2
      go_ret
      exact ⟨by rw [HE.out]; rfl, below_drewN HB.out _⟩

/-- Nodes, links taken down one after the other. -/
def dnN (s : GS) (l : List Int) : GS := l.foldl (fun s n => (setNode s n false).2) s
def dnL (s : GS) (l : List Int) : GS := l.foldl (fun s n => (setLink s n false).2) s
theorem dnN_snoc (s : GS) (l : List Int) (n : Int) : dnN s (l ++ [n]) = (setNode (dnN s l) n false).2 := by simp [dnN]
theorem dnL_snoc (s : GS) (l : List Int) (n : Int) : dnL s (l ++ [n]) = (setLink (dnL s l) n false).2 := by simp [dnL]
/-- The graph of a state, if it has one. -/
def mkG (x : SA) : Option GS := if 60 < x.L.length ∨ 60 < x.dn.length ∨ 60 < x.dl.length then none else if valE x.N x.L = 0 then some (dnL (dnN (gs0 x.N.toNat x.L) x.dn) x.dl) else none

abbrev sacs (x : SA) : Array Value := #[.int .i64 x.N, .slice x.A1 x.n1 x.c1, .slice x.A2 x.n2 x.c2, .slice x.A3 x.n3 x.c3]

theorem made_no (x : SA) (w : World) (H : x.at_ w) (hm : mkG x = none) :
    Calls Try.prog 36 #[x.v] w fun e w' => e = .returned (.pointer none) ∧ Below w.heap.size w w' := by
  have HB := Lib.hid (alloc_below w (.cells (sacs x) 69))
  have hn := Has.new w 69 (sacs x)
  have y0 : (w.alloc (.cells (sacs x) 69)).cell? ⟨w.heap.size, 0, none⟩ = some (.int .i64 x.N) := hn.cell 0
  have y1 : (w.alloc (.cells (sacs x) 69)).cell? ⟨w.heap.size, 1, none⟩ = some (.slice x.A1 x.n1 x.c1) := hn.cell 1
  have y2 : (w.alloc (.cells (sacs x) 69)).cell? ⟨w.heap.size, 2, none⟩ = some (.slice x.A2 x.n2 x.c2) := hn.cell 2
  have y3 : (w.alloc (.cells (sacs x) 69)).cell? ⟨w.heap.size, 3, none⟩ = some (.slice x.A3 x.n3 x.c3) := hn.cell 3
  have H1 := SA.below H HB.out
  have HL := Lib.hid H1.l
  have e1 := H.l.len
  have e2 := H.e2
  have e3 := H.e3
  unfold mkG at hm
  rw [← e1, ← e2, ← e3] at hm
  clear H hn H1 e1 e2 e3
  by_cases h1 : 60 < x.n1
  · have hd : decide ((60 : Int) < (x.n1 : Int)) = true := by simp; omega
    clear hm
    go_enter Try.func36, Try.ntmps36
    go_upto_region 1 with fail
    generalize w.alloc (.cells (sacs x) 69) = W1 at *
    go_wp2_with fail
    go_ret
    exact ⟨rfl, HB.out⟩
  · have hd : decide ((60 : Int) < (x.n1 : Int)) = false := by simp; omega
    by_cases h2 : 60 < x.n2
    · have hd2 : decide ((60 : Int) < (x.n2 : Int)) = true := by simp; omega
      clear hm
      go_enter Try.func36, Try.ntmps36
      go_upto_region 1 with fail
      generalize w.alloc (.cells (sacs x) 69) = W1 at *
      go_wp2_with fail
      go_ret
      exact ⟨rfl, HB.out⟩
    · have hd2 : decide ((60 : Int) < (x.n2 : Int)) = false := by simp; omega
      by_cases h3 : 60 < x.n3
      · have hd3 : decide ((60 : Int) < (x.n3 : Int)) = true := by simp; omega
        clear hm
        go_enter Try.func36, Try.ntmps36
        go_upto_region 1 with fail
        generalize w.alloc (.cells (sacs x) 69) = W1 at *
        go_wp2_with fail
        go_ret
        exact ⟨rfl, HB.out⟩
      · have hd3 : decide ((60 : Int) < (x.n3 : Int)) = false := by simp; omega
        have hv : valE x.N x.L ≠ 0 := by
          rw [if_neg (by omega)] at hm
          intro h9
          rw [if_pos h9] at hm
          cases hm
        have hb : (valE x.N x.L != 0) = true := by simp [hv]
        have HV := Lib.hid hv
        clear hm hv
        go_enter Try.func36, Try.ntmps36
        go_upto_region 1 with fail
        generalize w.alloc (.cells (sacs x) 69) = W1 at *
        go_wp2_with fail
        refine (new_no x.N _ _ _ x.L W1 HL.out HV.out).mono ?_
        rintro e w2 ⟨rfl, hb2⟩
        have HB2 := Lib.hid hb2
        clear hb2
        go_wp2_with fail
        go_ret
        exact ⟨rfl, HB.out.trans (HB2.out.mono HB.out.size)⟩

/-- A graph of the call's own. -/
def GraphOf (w : World) (s : GS) (e : Ending) (w' : World) : Prop := ∃ g b, e = .returned (.pointer (some ⟨g, 0, none⟩)) ∧ Gr w' g b s ∧ w.heap.size ≤ g ∧ w.heap.size ≤ b ∧ Below w.heap.size w w'
theorem SetTo.below {w w' : World} {g b B : Nat} {r : Int × GS} {e : Ending} (h : SetTo w g b r e w') (hg : B ≤ g) (hB : B ≤ w.heap.size) : Below B w w' := below_only (Below.refl _ _) h.2.2 hg hB

set_option maxHeartbeats 2000000 in
theorem made_yes (x : SA) (s : GS) (w : World) (H : x.at_ w) (hm : mkG x = some s) :
    Calls Try.prog 36 #[x.v] w (GraphOf w s) := by
  have HB := Lib.hid (alloc_below w (.cells (sacs x) 69))
  have hn := Has.new w 69 (sacs x)
  have y0 : (w.alloc (.cells (sacs x) 69)).cell? ⟨w.heap.size, 0, none⟩ = some (.int .i64 x.N) := hn.cell 0
  have y1 : (w.alloc (.cells (sacs x) 69)).cell? ⟨w.heap.size, 1, none⟩ = some (.slice x.A1 x.n1 x.c1) := hn.cell 1
  have y2 : (w.alloc (.cells (sacs x) 69)).cell? ⟨w.heap.size, 2, none⟩ = some (.slice x.A2 x.n2 x.c2) := hn.cell 2
  have y3 : (w.alloc (.cells (sacs x) 69)).cell? ⟨w.heap.size, 3, none⟩ = some (.slice x.A3 x.n3 x.c3) := hn.cell 3
  have hlt := hn.lt
  have H1 := SA.below H HB.out
  have HL := Lib.hid H1.l
  have HS2 := Lib.hid H1.s2
  have HS3 := Lib.hid H1.s3
  have e1 := H.l.len
  have HE2 := Lib.hid H.e2
  have HE3 := Lib.hid H.e3
  obtain ⟨h1, h2, h3, hv, hs⟩ : x.n1 ≤ 60 ∧ x.n2 ≤ 60 ∧ x.n3 ≤ 60 ∧ valE x.N x.L = 0 ∧ s = dnL (dnN (gs0 x.N.toNat x.L) x.dn) x.dl := by
    unfold mkG at hm
    rw [← e1, ← H.e2, ← H.e3] at hm
    by_cases hc : 60 < x.n1 ∨ 60 < x.n2 ∨ 60 < x.n3
    · rw [if_pos hc] at hm; cases hm
    · rw [if_neg hc] at hm
      by_cases hv : valE x.N x.L = 0
      · rw [if_pos hv] at hm
        injection hm with hm
        exact ⟨by omega, by omega, by omega, hv, hm.symm⟩
      · rw [if_neg hv] at hm; cases hm
  obtain ⟨k, hk⟩ : ∃ k : Nat, x.N = k := ⟨x.N.toNat, by have := (valE_ok hv).1; omega⟩
  have hkt : x.N.toNat = k := by rw [hk]; simp
  rw [hkt] at hs
  rw [hk] at hv y0
  have hd : decide ((60 : Int) < (x.n1 : Int)) = false := by simp; omega
  have hd2 : decide ((60 : Int) < (x.n2 : Int)) = false := by simp; omega
  have hd3 : decide ((60 : Int) < (x.n3 : Int)) = false := by simp; omega
  have HV := Lib.hid hv
  have HSS := Lib.hid hs
  clear H hn H1 e1 hm hv hs hkt hk
  go_enter Try.func36, Try.ntmps36
  go_upto_region 1 with fail
  generalize w.alloc (.cells (sacs x) 69) = W1 at *
  go_wp2_with fail
  refine (new_yes k _ _ _ x.L W1 HL.out HV.out).mono ?_
  rintro e W2 ⟨g, b, rfl, hG, hg, hb, hB2⟩
  have HG := Lib.hid hG
  have HB2 := Lib.hid hB2
  clear hG hB2
  go_wp2_with fail
  go_loopw [5] (fun i wr => ∃ j : Nat, j ≤ x.n2 ∧ i = .int .i64 j ∧ Gr wr g b (dnN (gs0 k x.L) (x.dn.take j)) ∧ Below W1.heap.size W1 wr) (fun i _ => x.n2 - (intOf i).toNat)
  case atStart => exact ⟨0, Nat.zero_le _, rfl, HG.out, HB2.out⟩
  case round =>
    obtain ⟨j, hj, rfl, hGr, hbw⟩ := hrel
    have z2 : wr.cell? ⟨w.heap.size, 2, none⟩ = some (.slice x.A2 x.n2 x.c2) := (hbw.cell (p := ⟨w.heap.size, 2, none⟩) hlt).trans y2
    by_cases hjl : j < x.n2
    · obtain ⟨n, hn⟩ : ∃ n, x.dn[j]? = some n := ⟨x.dn[j]'(by rw [← HE2.out]; exact hjl), by rw [List.getElem?_eq_getElem]⟩
      obtain ⟨bb, oo, hA, hbl, hcel⟩ := HS2.out.cel (by omega)
      have hcap := HS2.out.cap
      have q1 : wr.cell? ⟨bb, oo + j, none⟩ = some (.int .i64 n) := (hbw.cell (p := ⟨bb, oo + j, none⟩) hbl).trans (hcel j _ (by simp [ints, hn]))
      rw [hA] at z2
      have hjn : (j : Int) < (x.n2 : Int) := by omega
      have HT : Hid (dnN (gs0 k x.L) (x.dn.take (j + 1)) = (setNode (dnN (gs0 k x.L) (x.dn.take j)) n false).2) := Lib.hid (by rw [List.take_add_one, hn, Option.toList_some, dnN_snoc])
      have HGr := Lib.hid hGr
      have HBw := Lib.hid hbw
      clear hcel hn hGr hbw hA
      go_wp2_with fail
      refine (setNode_any g b _ wr HGr.out n false).mono ?_
      rintro e w6 hs6
      have hb6 := hs6.below hg HBw.out.size
      obtain ⟨rfl, hG6, hO6⟩ := hs6
      have HG6 := Lib.hid hG6
      have HB6 := Lib.hid (HBw.out.trans hb6)
      clear hG6 hO6 hb6
      go_wp2_with fail
      go_roundw
      case rel => exact ⟨j + 1, by omega, by go_num, by rw [HT.out]; exact HG6.out, HB6.out⟩
      case measure => simp [intOf]; omega
    · obtain rfl : j = x.n2 := by omega
      have HGd : Hid (Gr wr g b (dnN (gs0 k x.L) x.dn)) := Lib.hid (by rw [HE2.out, List.take_length] at hGr; exact hGr)
      have HBw := Lib.hid hbw
      clear hGr hbw
      obtain ⟨wo, rfl⟩ : ∃ wo : World, wo = wr := ⟨_, rfl⟩
      go_wp2_with fail
      go_loopw [6] (fun i wr => ∃ j : Nat, j ≤ x.n3 ∧ i = .int .i64 j ∧ Gr wr g b (dnL (dnN (gs0 k x.L) x.dn) (x.dl.take j)) ∧ Below W1.heap.size W1 wr) (fun i _ => x.n3 - (intOf i).toNat)
      case atStart => exact ⟨0, Nat.zero_le _, rfl, HGd.out, HBw.out⟩
      case round =>
        obtain ⟨j, hj, rfl, hGr, hbw⟩ := hrel
        have z3 : wr.cell? ⟨w.heap.size, 3, none⟩ = some (.slice x.A3 x.n3 x.c3) := (hbw.cell (p := ⟨w.heap.size, 3, none⟩) hlt).trans y3
        by_cases hjl : j < x.n3
        · obtain ⟨n, hn⟩ : ∃ n, x.dl[j]? = some n := ⟨x.dl[j]'(by rw [← HE3.out]; exact hjl), by rw [List.getElem?_eq_getElem]⟩
          obtain ⟨bb, oo, hA, hbl, hcel⟩ := HS3.out.cel (by omega)
          have hcap := HS3.out.cap
          have q1 : wr.cell? ⟨bb, oo + j, none⟩ = some (.int .i64 n) := (hbw.cell (p := ⟨bb, oo + j, none⟩) hbl).trans (hcel j _ (by simp [ints, hn]))
          rw [hA] at z3
          have hjn : (j : Int) < (x.n3 : Int) := by omega
          have HT : Hid (dnL (dnN (gs0 k x.L) x.dn) (x.dl.take (j + 1)) = (setLink (dnL (dnN (gs0 k x.L) x.dn) (x.dl.take j)) n false).2) := Lib.hid (by rw [List.take_add_one, hn, Option.toList_some, dnL_snoc])
          have HGr := Lib.hid hGr
          have HBw := Lib.hid hbw
          clear hcel hn hGr hbw hA
          go_wp2_with fail
          refine (setLink_any g b _ wr HGr.out n false).mono ?_
          rintro e w6 hs6
          have hb6 := hs6.below hg HBw.out.size
          obtain ⟨rfl, hG6, hO6⟩ := hs6
          have HG6 := Lib.hid hG6
          have HB6 := Lib.hid (HBw.out.trans hb6)
          clear hG6 hO6 hb6
          go_wp2_with fail
          go_roundw
          case rel => exact ⟨j + 1, by omega, by go_num, by rw [HT.out]; exact HG6.out, HB6.out⟩
          case measure => simp [intOf]; omega
        · obtain rfl : j = x.n3 := by omega
          have HGe : Hid (Gr wr g b s) := Lib.hid (by rw [HSS.out]; rw [HE3.out, List.take_length] at hGr; exact hGr)
          have HBe := Lib.hid hbw
          clear hGr hbw
          go_wp2_with fail
          go_ret
          have := HB.out.size
          exact ⟨g, b, rfl, HGe.out, by omega, by omega, HB.out.trans (HBe.out.mono HB.out.size)⟩

/-- The components as one list, each with an end mark. -/
def prtL (ls : List (List Nat)) : List Int := ls.flatMap fun l => l.map (fun (x : Nat) => (x : Int)) ++ [-1]
theorem prtL_snoc (ls : List (List Nat)) (l : List Nat) : prtL (ls ++ [l]) = prtL ls ++ (l.map (fun (x : Nat) => (x : Int)) ++ [-1]) := by simp [prtL]
theorem comps_small {s : GS} (ok : s.ok) : s.comps.length ≤ 32 ∧ ∀ l ∈ s.comps, l.length ≤ 32 := by
  have := ok.n32
  refine ⟨Nat.le_trans (cmps_len s s.N) this, fun l hl => ?_⟩
  unfold GS.comps cmpsTo at hl
  obtain ⟨n, _, rfl⟩ := List.mem_map.1 hl
  exact Nat.le_trans (comp_len s n) this
theorem ints_app (a b : List Int) : ints (a ++ b) = ints a ++ ints b := by simp [ints]

theorem own_fresh {w : World} {B k n c : Nat} {t : TypeId} {A : Option Addr} {xs : List Value} (h : w.ownsRow B t k (.slice A n c) n xs) (ad : Addr) (e : A = some ad) : B ≤ ad.block := by
  obtain ⟨A', c', e', h | ⟨g, hg, _, h⟩⟩ := own_form h
  · injection e' with e' _ _; rw [e', h] at e; cases e
  · injection e' with e' _ _; rw [e', h] at e; injection e with e; subst e; exact hg
theorem Sq.only {w w' : World} {g : Nat} {A : Option Addr} {n c k : Nat} {xs : List Value} (h : Sq w A n c k xs) (hO : Only w g w') (hne : ∀ ad : Addr, A = some ad → g < ad.block) : Sq w' A n c k xs :=
  ⟨h.len, h.cap, fun h0 => by
    obtain ⟨b, o, e, hl, hc⟩ := h.cel h0
    have hb : g < b := hne _ e
    exact ⟨b, o, e, Nat.lt_of_lt_of_le hl hO.size, fun j v hv => (World.cell?_of_block (a := ⟨b, o + j, none⟩) (hO.block b hl (by intro h9; injection h9 with h9; omega))).trans (hc j v hv)⟩⟩
/-- What parts returns. -/
def PartsTo (w : World) (ls : List (List Nat)) (e : Ending) (w' : World) : Prop := ∃ A c n, e = .returned (.tuple #[.int .i64 (ls.length : Int), .slice A n c]) ∧ n ≤ 2000 ∧ Sq w' A n c 1 (ints (prtL ls)) ∧ (∀ ad : Addr, A = some ad → w.heap.size ≤ ad.block) ∧ Below w.heap.size w w'

set_option maxHeartbeats 2000000 in
theorem parts_any (g b : Nat) (s : GS) (w : World) (H : Gr w g b s) :
    Calls Try.prog 39 #[.pointer (some ⟨g, 0, none⟩)] w (PartsTo w s.comps) := by
  have HH := Lib.hid H
  obtain ⟨hc1, hc2⟩ := comps_small H.ok
  have HC2 := Lib.hid hc2
  obtain ⟨p, hp⟩ : ∃ p, s.comps.length = p := ⟨_, rfl⟩
  rw [hp] at hc1
  have HP := Lib.hid hp
  obtain ⟨j0, hj0, hz0, hz1, hz2⟩ := info_parts info_int
  clear H hc2 hp
  go_enter Try.func39, Try.ntmps39
  go_wp2_with fail
  refine (comps_any g b s w HH.out).mono ?_
  rintro e W1 ⟨A1, c1, rfl, ⟨R, hR1, hR2, hR3, hR4, hR5⟩, hB1⟩
  have HR1 := Lib.hid hR1
  have HR3 := Lib.hid hR3
  have HR4 := Lib.hid hR4
  have HB1 := Lib.hid hB1
  have HR2 := Lib.hid hR2
  rw [HP.out]
  clear hR1 hR2 hR3 hR4 hR5 hB1
  go_wp2_with fail
  go_loopw [4, 6] (fun v i wr => ∃ (k n : Nat) (A4 : Option Addr) (c4 : Nat), k ≤ p ∧ i = .int .i64 k ∧ v = .slice A4 n c4 ∧ n ≤ 33 * k ∧ wr.ownsRow W1.heap.size 3 1 (.slice A4 n c4) n (ints (prtL (s.comps.take k))) ∧ Below W1.heap.size W1 wr) (fun _ i _ => p - (intOf i).toNat)
  case atStart => exact ⟨0, 0, none, 0, Nat.zero_le _, rfl, rfl, Nat.le_refl _, World.ownsRow_nil _ _ _ _, Below.refl _ _⟩
  case round =>
    obtain ⟨k, n, A4, c4, hk, rfl, rfl, hn, hown, hb⟩ := hrel
    by_cases hlt : k < p
    · have hkR : k < R.length := by rw [HR2.out, HP.out]; exact hlt
      obtain ⟨r, hr⟩ : ∃ r, R[k]? = some r := ⟨R[k], by rw [List.getElem?_eq_getElem hkR]⟩
      obtain ⟨rh, rc, rl⟩ := r
      have hrow := (HR4.out _ (List.mem_of_getElem? hr)).2
      have hlk : s.comps[k]? = some rl := by rw [← HR1.out, List.getElem?_map, hr]; rfl
      have hrl : rl.length ≤ 32 := HC2.out _ (List.mem_of_getElem? hlk)
      obtain ⟨g1, hA1, hg1, hcell⟩ : ∃ g1, A1 = some ⟨g1, 0, none⟩ ∧ g1 < W1.heap.size ∧ W1.cell? ⟨g1, k, none⟩ = some (.slice (some ⟨rh, 0, none⟩) rl.length rc) := by
        rcases HR3.out.2 with ⟨_, h6⟩ | ⟨g1, cap, cur, hv, hbb, hh, hc, _⟩
        · rw [← HR2.out] at h6; omega
        · injection hv with hv _ _
          refine ⟨g1, hv, Has.lt (show Has W1 g1 58 cur from hh), ?_⟩
          have := HR3.out.cells (g := g1) (by rw [hv]; rfl) k (.slice (some ⟨rh, 0, none⟩) rl.length rc) (by rw [List.getElem?_map, hr]; rfl)
          rw [add_plain, Nat.zero_add] at this
          exact this
      have q0 : wr.cell? ⟨g1, k, none⟩ = some (.slice (some ⟨rh, 0, none⟩) rl.length rc) := (hb.cell (p := ⟨g1, k, none⟩) hg1).trans hcell
      subst hA1
      have hkl : (k : Int) < (p : Int) := by omega
      have hrw : RowN wr rh rc rl := hrow.keep fun cur hc => hc.below hb
      have HSrc : Hid (∀ (j : Nat) (u : Value), (natv rl)[j]? = some u → wr.cell? ((⟨rh, 0, none⟩ : Addr).add j) = some u) := Lib.hid (fun j u hu => by
        simp only [natv, List.getElem?_map] at hu
        obtain ⟨y, hy, rfl⟩ := Option.map_eq_some_iff.1 hu
        rw [add_plain, Nat.zero_add]
        exact hrw.at_ hy)
      have HT : Hid (ints (prtL (s.comps.take (k + 1))) = ints (prtL (s.comps.take k)) ++ (natv rl ++ [.int .i64 (-1)])) := Lib.hid (by
        rw [List.take_add_one, hlk, Option.toList_some, prtL_snoc, ints_app, ints_app, ← natv_ints]; rfl)
      obtain ⟨q, hq⟩ : ∃ q, rl.length = q := ⟨_, rfl⟩
      rw [hq] at q0 hrl
      have HQ : Hid ((natv rl).length = q * 1) := Lib.hid (by simp [natv, hq])
      have HO := Lib.hid hown
      have HB := Lib.hid hb
      have HN : ∀ u ∈ natv rl, u.oneCell' = true := by
        intro u hu
        simp only [natv, List.mem_map] at hu
        obtain ⟨y, _, rfl⟩ := hu
        rfl
      have HNN := Lib.hid HN
      clear hown hb hr hrow hlk hcell hrw hq HN
      go_wp2_with (at_builtin; refine wpList_append_own _ rfl (.tmp 15) (.tmp 19) 58 rfl W1.heap.size 3 j0 (.int .i64 0) 1 8 Try.underlying58 hj0 hz0 hz1 hz2 rfl (by decide) _ n _ rfl HO.out ⟨rh, 0, none⟩ q rc (natv rl) rfl HQ.out HSrc.out HNN.out (by unfold maxLen; omega) (by omega) HB.out.size ?_)
      intro v5 w5 hown5 hgrow5 hnil5
      obtain ⟨A5, c5, rfl, _⟩ := own_form hown5
      have HO5 := Lib.hid hown5
      have HB5 : Hid (Below W1.heap.size W1 w5) := Lib.hid (grown_below HB.out hgrow5 (fun r hr => (HO.out.lt r hr).1) HB.out.size)
      clear hown5 hgrow5 hnil5
      go_wp2_with (at_builtin; refine wpList_append_own _ rfl (.tmp 20) (.tmp 21) 58 rfl W1.heap.size 3 j0 (.int .i64 0) 1 8 Try.underlying58 hj0 hz0 hz1 hz2 rfl (by decide) _ (n + q) _ rfl (HO5.out.alloc _) ⟨w5.heap.size, 0, none⟩ 1 1 [.int .i64 (-1)] rfl rfl (laid_block w5 _ _) (by simp [Value.oneCell']) (by unfold maxLen; omega) (by omega) (by have := HB5.out.size; simp; omega) ?_)
      intro v6 w6 hown6 hgrow6 hnil6
      obtain ⟨A6, c6, rfl, _⟩ := own_form hown6
      have HO6 := Lib.hid hown6
      have HB6 : Hid (Below W1.heap.size W1 w6) := Lib.hid (grown_below (HB5.out.alloc HB5.out.size _) hgrow6 (fun r hr => (HO5.out.lt r hr).1) (by have := HB5.out.size; simp; omega))
      clear hown6 hgrow6 hnil6
      go_wp2_with fail
      go_roundw
      case rel => exact ⟨k + 1, n + q + 1, A6, c6, by omega, by go_num, rfl, by omega, by rw [HT.out]; exact HO6.out, HB6.out⟩
      case measure => simp [intOf]; omega
    · obtain rfl : k = p := by omega
      have HF : Hid (s.comps.take k = s.comps) := Lib.hid (List.take_of_length_le (by rw [HP.out]; exact Nat.le_refl _))
      have HO := Lib.hid hown
      have HB := Lib.hid hb
      clear hown hb
      go_wp2_with fail
      go_ret2
      refine ⟨A4, c4, n, ?_, by omega, ?_, fun ad e => ?_, HB1.out.trans (HB.out.mono HB1.out.size)⟩
      · rw [HP.out]; rfl
      · have := HO.out
        rw [HF.out] at this
        exact Sq.own this
      · exact Nat.le_trans HB1.out.size (own_fresh HO.out ad e)

end Go.Proofs.Ytfmjcjkifjndgaa
