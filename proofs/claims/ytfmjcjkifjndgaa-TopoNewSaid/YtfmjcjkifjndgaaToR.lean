/- Graphs: awake; TopoKnown's walk; written by gen_tor.py. -/
import Derived.Test.YtfmjcjkifjndgaaToQ
namespace Go.Proofs.Ytfmjcjkifjndgaa
open Go.RowKit
set_option linter.unusedVariables false
set_option linter.unusedSimpArgs false
set_option maxRecDepth 100000

set_option maxHeartbeats 2000000 in
theorem awake_any (w : World) :
    Calls Try.prog 10 #[] w (Says w true) := by
  go_enter Try.func10, Try.ntmps10
  go_wp2_with fail
  refine (four_any _).mono ?_
  rintro e w1 ⟨g, b, rfl, hG, hg, hb, hB⟩
  have HGw1 := Lib.hid hG
  have HBw1 := Lib.hid hB
  clear hG hB
  go_wp2_with fail
  refine (neigh_any g b G4 _ HGw1.out 2).mono ?_
  rintro e w2 ⟨Aw2, cw2, rfl, ho, hb⟩
  rw [G4_n2] at ho ⊢
  simp only [List.length_cons, List.length_nil, Nat.zero_add, Nat.reduceAdd] at ho ⊢
  have HOw2 := Lib.hid (Sq.own ho)
  clear ho
  have hq := hb
  have HBw2 := Lib.hid (HBw1.out.trans (hq.mono HBw1.out.size))
  have HGw2 := Lib.hid (HGw1.out.below hq)
  clear hq hb
  go_wp2_with fail
  refine (same_edges (HOw2.out.below (alloc_below _ _)) (lit_sq _ 74 (flatE [⟨0, 0, 1⟩, ⟨1, 1, 5⟩, ⟨3, 1, 7⟩]) 3 3 rfl) (by decide)).mono ?_
  rintro e w3 ⟨rfl, hb⟩
  have hq := (alloc_below _ _).trans (hb.mono (alloc_below _ _).size)
  have HBw3 := Lib.hid (HBw2.out.trans (hq.mono HBw2.out.size))
  have HGw3 := Lib.hid (HGw2.out.below hq)
  clear hq hb
  go_wp2_with fail
  refine (comp_any g b G4 _ HGw3.out 0).mono ?_
  rintro e w4 ⟨Aw4, cw4, rfl, ho, hb⟩
  rw [show G4.compI 0 = G4.comp 0 from compI_nat _ 0, G4_c0, natv_ints] at ho
  rw [show G4.compI 0 = G4.comp 0 from compI_nat _ 0, G4_c0]
  simp only [List.length_cons, List.length_nil, Nat.zero_add, Nat.reduceAdd] at ho ⊢
  have HOw4 := Lib.hid (Sq.own ho)
  clear ho
  have hq := hb
  have HBw4 := Lib.hid (HBw3.out.trans (hq.mono HBw3.out.size))
  have HGw4 := Lib.hid (HGw3.out.below hq)
  clear hq hb
  go_wp2_with fail
  refine (same_ints (HOw4.out.below (alloc_below _ _)) (lit_sq _ 3 (ints [0, 1, 2, 3]) 4 1 rfl) (by decide)).mono ?_
  rintro e w5 ⟨rfl, hb⟩
  have hq := (alloc_below _ _).trans (hb.mono (alloc_below _ _).size)
  have HBw5 := Lib.hid (HBw4.out.trans (hq.mono HBw4.out.size))
  have HGw5 := Lib.hid (HGw4.out.below hq)
  clear hq hb
  go_wp2_with fail
  refine (setLink_any g b G4 _ HGw5.out 0 false).mono ?_
  rintro e w6 ⟨rfl, hG, hO⟩
  rw [G4a_set] at hG ⊢
  have HGw6 := Lib.hid hG
  have HBw6 : Hid (Below w.heap.size w w6) := Lib.hid (below_only HBw5.out hO hg HBw5.out.size)
  clear hG hO
  go_wp2_with fail
  refine (comp_any g b G4a _ HGw6.out 0).mono ?_
  rintro e w7 ⟨Aw7, cw7, rfl, ho, hb⟩
  rw [show G4a.compI 0 = G4a.comp 0 from compI_nat _ 0, G4a_c0, natv_ints] at ho
  rw [show G4a.compI 0 = G4a.comp 0 from compI_nat _ 0, G4a_c0]
  simp only [List.length_cons, List.length_nil, Nat.zero_add, Nat.reduceAdd] at ho ⊢
  have HOw7 := Lib.hid (Sq.own ho)
  clear ho
  have hq := hb
  have HBw7 := Lib.hid (HBw6.out.trans (hq.mono HBw6.out.size))
  have HGw7 := Lib.hid (HGw6.out.below hq)
  clear hq hb
  go_wp2_with fail
  refine (same_ints (HOw7.out.below (alloc_below _ _)) (lit_sq _ 3 (ints [0, 3]) 2 1 rfl) (by decide)).mono ?_
  rintro e w8 ⟨rfl, hb⟩
  have hq := (alloc_below _ _).trans (hb.mono (alloc_below _ _).size)
  have HBw8 := Lib.hid (HBw7.out.trans (hq.mono HBw7.out.size))
  have HGw8 := Lib.hid (HGw7.out.below hq)
  clear hq hb
  go_wp2_with fail
  have s1 := (lit_sq w8 3 (natv [0, 3]) 2 1 rfl).below (alloc_below _ (.cells (natv [1, 2]).toArray 3))
  have s2 := lit_sq (w8.alloc (.cells (natv [0, 3]).toArray 3)) 3 (natv [1, 2]) 2 1 rfl
  rw [World.size_alloc] at s2
  refine (two_any g b G4a [0, 3] [1, 2] _ _ 2 2 _ _ _ ((HGw8.out.below (alloc_below _ _)).below (alloc_below _ _)) G4a_all rfl rfl s1 s2 (by decide) (by decide)).mono ?_
  rintro e w9 ⟨rfl, hb⟩
  clear s1 s2
  have hq := ((alloc_below _ _).trans ((alloc_below _ _).mono (alloc_below _ _).size)).trans (hb.mono ((alloc_below _ _).trans ((alloc_below _ _).mono (alloc_below _ _).size)).size)
  have HBw9 := Lib.hid (HBw8.out.trans (hq.mono HBw8.out.size))
  have HGw9 := Lib.hid (HGw8.out.below hq)
  clear hq hb
  go_wp2_with fail
  go_ret
  exact ⟨rfl, HBw9.out⟩

theorem make_links (w : World) {ops : Array Oper} {rest : List Oper} {o : Oper} {a : Act} {Q : Exit → Act → World → Prop} (hg : o.guard = none) (n : Nat) (hn : n ≤ 1000)
    (hop : o.op = Op.makeSlice 22 (.const (.int .i64 (n : Int))) (.const (.int .i64 (n : Int))))
    (h : ∀ w2, Lks w2 (some ⟨w.heap.size, 0, none⟩) n n (List.replicate n ⟨0, 0, 0⟩) → Below w.heap.size w w2 → wpList Try.prog ops Q rest (a.put o.dst (.slice (some ⟨w.heap.size, 0, none⟩) n n)) w2) : wpList Try.prog ops Q (o :: rest) a w := by
  obtain ⟨i0, hi0, hz0, hz1, hz2⟩ := info_parts info_link
  refine wpList_plain hg fun K hK' => ?_
  have hrun := run_make (P := Try.prog) w 22 26 i0 _ Try.underlying22 hi0 hz0 .i64 .i64 n n (by omega) (Int.le_refl _) (by rw [hz2]; omega) (by omega)
  simp only [Int.toNat_natCast, hz1] at hrun
  have hcells : (madeCells (Value.agg #[.int .i64 0, .int .i64 0, .int .i64 0]).cells (n * 3)).toList = flatL (List.replicate n ⟨0, 0, 0⟩) := by
    refine List.ext_getElem (by rw [flatL_len]; simp [madeCells]) (fun j h1 h2 => ?_)
    have hj : j < n * 3 := by simpa [madeCells] using h1
    have hq : j / 3 < n := by omega
    obtain ⟨e0, e1, e2⟩ := flatL_at (List.replicate n (⟨0, 0, 0⟩ : LK)) (j / 3) ⟨0, 0, 0⟩ (by simp [hq])
    have hr : j % 3 = 0 ∨ j % 3 = 1 ∨ j % 3 = 2 := by omega
    have hall : (flatL (List.replicate n (⟨0, 0, 0⟩ : LK)))[j]? = some (.int .i64 0) := by
      rcases hr with hr | hr | hr
      · rw [show j = j / 3 * 3 by omega]; exact e0
      · rw [show j = j / 3 * 3 + 1 by omega]; exact e1
      · rw [show j = j / 3 * 3 + 2 by omega]; exact e2
    rw [List.getElem?_eq_getElem h2] at hall
    have e9 := Option.some.inj hall
    rw [e9]
    have hl : ((Value.agg #[.int .i64 0, .int .i64 0, .int .i64 0]).cells)[j % 3]! = .int .i64 0 := by
      rcases hr with hr | hr | hr <;> rw [hr] <;> rfl
    simp only [madeCells, Array.getElem_toList, Array.getElem_map, Array.getElem_range]
    exact hl
  have hnew := Has.new w 26 (madeCells (Value.agg #[.int .i64 0, .int .i64 0, .int .i64 0]).cells (n * 3))
  unfold Oper.wp
  have hev : a.eval (Operand.const (Value.int .i64 (n : Int))) = .int .i64 (n : Int) := rfl
  simp [execOp, hop, hev, hrun, Result.andThen]
  refine hK' _ _ (h _ ⟨by simp, Nat.le_refl _, by unfold maxLen; omega, (fun e => by cases e), fun ad e j u hu => ?_⟩ (alloc_below _ _))
  injection e with e
  subst e
  rw [add_plain, Nat.zero_add, hnew.cell, ← Array.getElem?_toList, hcells]
  exact hu

set_option maxHeartbeats 4000000 in
theorem known_any (w : World) :
    Calls Try.prog 6 #[] w (Says w true) := by
  go_enter Try.func6, Try.ntmps6
  go_wp2_with fail
  refine (four_any _).mono ?_
  rintro e w1 ⟨g, b, rfl, hG, hg, hb, hB⟩
  have HGw1 := Lib.hid hG
  have HBw1 := Lib.hid hB
  clear hG hB
  go_wp2_with fail
  refine (btw_any g b G4 _ HGw1.out 2 1).mono ?_
  rintro e w2 ⟨Aw2, cw2, rfl, ho, hb⟩
  rw [G4_b21] at ho ⊢
  simp only [List.length_cons, List.length_nil, Nat.zero_add, Nat.reduceAdd] at ho ⊢
  have HOw2 := Lib.hid (Sq.own ho)
  clear ho
  have hq := hb
  have HBw2 := Lib.hid (HBw1.out.trans (hq.mono HBw1.out.size))
  have HGw2 := Lib.hid (HGw1.out.below hq)
  clear hq hb
  go_wp2_with fail
  refine (same_ints (HOw2.out.below (alloc_below _ _)) (lit_sq _ 3 (ints [1, 3]) 2 1 rfl) (by decide)).mono ?_
  rintro e w3 ⟨rfl, hb⟩
  have hq := (alloc_below _ _).trans (hb.mono (alloc_below _ _).size)
  have HBw3 := Lib.hid (HBw2.out.trans (hq.mono HBw2.out.size))
  have HGw3 := Lib.hid (HGw2.out.below hq)
  clear hq hb
  go_wp2_with fail
  refine (setLink_any g b G4 _ HGw3.out 0 false).mono ?_
  rintro e w4 ⟨rfl, hG, hO⟩
  rw [G4a_set] at hG ⊢
  have HGw4 := Lib.hid hG
  have HBw4 : Hid (Below w.heap.size w w4) := Lib.hid (below_only HBw3.out hO hg HBw3.out.size)
  clear hG hO
  go_wp2_with fail
  refine (flags_any g b G4a _ HGw4.out).mono ?_
  rintro e w5 ⟨Aw5, cw5, rfl, ho, hb⟩
  rw [G4a_flags] at ho
  rw [show G4a.L.length = 4 from rfl] at ho ⊢
  have HOw5 := Lib.hid (Sq.own ho)
  clear ho
  have hq := hb
  have HBw5 := Lib.hid (HBw4.out.trans (hq.mono HBw4.out.size))
  have HGw5 := Lib.hid (HGw4.out.below hq)
  clear hq hb
  go_wp2_with fail
  refine (same_bools (HOw5.out.below (alloc_below _ _)) (lit_sq _ 4 ([false, true, true, true].map Value.bool) 4 1 rfl) (by decide)).mono ?_
  rintro e w6 ⟨rfl, hb⟩
  have hq := (alloc_below _ _).trans (hb.mono (alloc_below _ _).size)
  have HBw6 := Lib.hid (HBw5.out.trans (hq.mono HBw5.out.size))
  have HGw6 := Lib.hid (HGw5.out.below hq)
  clear hq hb
  go_wp2_with fail
  refine (setNode_any g b G4a _ HGw6.out 2 false).mono ?_
  rintro e w7 ⟨rfl, hG, hO⟩
  rw [G4b_set] at hG ⊢
  have HGw7 := Lib.hid hG
  have HBw7 : Hid (Below w.heap.size w w7) := Lib.hid (below_only HBw6.out hO hg HBw6.out.size)
  clear hG hO
  go_wp2_with fail
  refine (neigh_any g b G4b _ HGw7.out 1).mono ?_
  rintro e w8 ⟨Aw8, cw8, rfl, ho, hb⟩
  rw [G4b_n1] at ho ⊢
  simp only [List.length_cons, List.length_nil, Nat.zero_add, Nat.reduceAdd] at ho ⊢
  have HOw8 := Lib.hid (Sq.own ho)
  clear ho
  have hq := hb
  have HBw8 := Lib.hid (HBw7.out.trans (hq.mono HBw7.out.size))
  have HGw8 := Lib.hid (HGw7.out.below hq)
  clear hq hb
  go_wp2_with fail
  have s1 := (lit_sq w8 3 (natv [0, 3]) 2 1 rfl).below (alloc_below _ (.cells (natv [1]).toArray 3))
  have s2 := lit_sq (w8.alloc (.cells (natv [0, 3]).toArray 3)) 3 (natv [1]) 1 1 rfl
  rw [World.size_alloc] at s2
  refine (two_any g b G4b [0, 3] [1] _ _ 2 1 _ _ _ ((HGw8.out.below (alloc_below _ _)).below (alloc_below _ _)) G4b_all rfl rfl s1 s2 (by decide) (by decide)).mono ?_
  rintro e w9 ⟨rfl, hb⟩
  clear s1 s2
  have hq := ((alloc_below _ _).trans ((alloc_below _ _).mono (alloc_below _ _).size)).trans (hb.mono ((alloc_below _ _).trans ((alloc_below _ _).mono (alloc_below _ _).size)).size)
  have HBw9 := Lib.hid (HBw8.out.trans (hq.mono HBw8.out.size))
  have HGw9 := Lib.hid (HGw8.out.below hq)
  clear hq hb
  go_wp2_with fail
  refine (up_any g b G4b _ HGw9.out 1).mono ?_
  rintro e w' ⟨rfl, rfl⟩
  rw [G4b_up1]
  go_wp2_with fail
  refine (alive_any g b G4b _ HGw9.out 2).mono ?_
  rintro e w' ⟨rfl, rfl⟩
  rw [G4b_al2]
  go_wp2_with fail
  refine (setNode_any g b G4b _ HGw9.out 2 true).mono ?_
  rintro e w10 ⟨rfl, hG, hO⟩
  rw [G4c_set] at hG ⊢
  have HGw10 := Lib.hid hG
  have HBw10 : Hid (Below w.heap.size w w10) := Lib.hid (below_only HBw9.out hO hg HBw9.out.size)
  clear hG hO
  go_wp2_with fail
  refine (setLink_any g b G4a _ HGw10.out 0 true).mono ?_
  rintro e w11 ⟨rfl, hG, hO⟩
  rw [G4d_set] at hG ⊢
  have HGw11 := Lib.hid hG
  have HBw11 : Hid (Below w.heap.size w w11) := Lib.hid (below_only HBw10.out hO hg HBw10.out.size)
  clear hG hO
  go_wp2_with fail
  refine (comp_any g b G4 _ HGw11.out 3).mono ?_
  rintro e w12 ⟨Aw12, cw12, rfl, ho, hb⟩
  rw [show G4.compI 3 = G4.comp 3 from compI_nat _ 3, G4_c3, natv_ints] at ho
  rw [show G4.compI 3 = G4.comp 3 from compI_nat _ 3, G4_c3]
  simp only [List.length_cons, List.length_nil, Nat.zero_add, Nat.reduceAdd] at ho ⊢
  have HOw12 := Lib.hid (Sq.own ho)
  clear ho
  have hq := hb
  have HBw12 := Lib.hid (HBw11.out.trans (hq.mono HBw11.out.size))
  have HGw12 := Lib.hid (HGw11.out.below hq)
  clear hq hb
  go_wp2_with fail
  refine (same_ints (HOw12.out.below (alloc_below _ _)) (lit_sq _ 3 (ints [0, 1, 2, 3]) 4 1 rfl) (by decide)).mono ?_
  rintro e w13 ⟨rfl, hb⟩
  have hq := (alloc_below _ _).trans (hb.mono (alloc_below _ _).size)
  have HBw13 := Lib.hid (HBw12.out.trans (hq.mono HBw12.out.size))
  have HGw13 := Lib.hid (HGw12.out.below hq)
  clear hq hb
  go_wp2_with fail
  refine (setLink_any g b G4 _ HGw13.out 4 true).mono ?_
  rintro e w14 ⟨rfl, hG, hO⟩
  rw [G4e_set] at hG ⊢
  have HGw14 := Lib.hid hG
  have HBw14 : Hid (Below w.heap.size w w14) := Lib.hid (below_only HBw13.out hO hg HBw13.out.size)
  clear hG hO
  go_wp2_with fail
  refine (btw_any g b G4 _ HGw14.out 2 2).mono ?_
  rintro e w15 ⟨Aw15, cw15, rfl, ho, hb⟩
  rw [G4_b22] at ho ⊢
  simp only [List.length_cons, List.length_nil, Nat.zero_add, Nat.reduceAdd] at ho ⊢
  have HOw15 := Lib.hid (Sq.own ho)
  clear ho
  have hq := hb
  have HBw15 := Lib.hid (HBw14.out.trans (hq.mono HBw14.out.size))
  have HGw15 := Lib.hid (HGw14.out.below hq)
  clear hq hb
  go_wp2_with fail
  refine (new_no 0 _ _ _ [] _ ⟨rfl, Nat.le_refl _, by simp, (fun _ => rfl), (fun ad e => by cases e)⟩ (by decide +kernel)).mono ?_
  rintro e w16 ⟨rfl, hb⟩
  rw [show valE 0 [] = 2 by decide +kernel]
  have hq := hb
  have HBw16 := Lib.hid (HBw15.out.trans (hq.mono HBw15.out.size))
  have HGw16 := Lib.hid (HGw15.out.below hq)
  clear hq hb
  go_wp2_with fail
  refine (new_no 2 _ _ _ [⟨0, 2, 1⟩] _ (lit_lks _ [⟨0, 2, 1⟩] 1 rfl (by decide)) (by decide +kernel)).mono ?_
  rintro e w17 ⟨rfl, hb⟩
  rw [show valE 2 [⟨0, 2, 1⟩] = 2 by decide +kernel]
  have hq := (alloc_below _ _).trans (hb.mono (alloc_below _ _).size)
  have HBw17 := Lib.hid (HBw16.out.trans (hq.mono HBw16.out.size))
  have HGw17 := Lib.hid (HGw16.out.below hq)
  clear hq hb
  go_wp2_with fail
  refine (new_no 2 _ _ _ [⟨0, 0, 1⟩] _ (lit_lks _ [⟨0, 0, 1⟩] 1 rfl (by decide)) (by decide +kernel)).mono ?_
  rintro e w18 ⟨rfl, hb⟩
  rw [show valE 2 [⟨0, 0, 1⟩] = 12 by decide +kernel]
  have hq := (alloc_below _ _).trans (hb.mono (alloc_below _ _).size)
  have HBw18 := Lib.hid (HBw17.out.trans (hq.mono HBw17.out.size))
  have HGw18 := Lib.hid (HGw17.out.below hq)
  clear hq hb
  go_wp2_with fail
  refine (new_no 2 _ _ _ [⟨0, 1, 0⟩] _ (lit_lks _ [⟨0, 1, 0⟩] 1 rfl (by decide)) (by decide +kernel)).mono ?_
  rintro e w19 ⟨rfl, hb⟩
  rw [show valE 2 [⟨0, 1, 0⟩] = 2 by decide +kernel]
  have hq := (alloc_below _ _).trans (hb.mono (alloc_below _ _).size)
  have HBw19 := Lib.hid (HBw18.out.trans (hq.mono HBw18.out.size))
  have HGw19 := Lib.hid (HGw18.out.below hq)
  clear hq hb
  go_wp2_with (refine make_links _ rfl 129 (by decide) rfl ?_; intro w20 hk hb)
  have HKw20 := Lib.hid hk
  clear hk
  have hq := hb
  have HBw20 := Lib.hid (HBw19.out.trans (hq.mono HBw19.out.size))
  have HGw20 := Lib.hid (HGw19.out.below hq)
  clear hq hb
  refine (new_no 2 _ _ _ (List.replicate 129 ⟨0, 0, 0⟩) _ HKw20.out (by decide +kernel)).mono ?_
  rintro e w21 ⟨rfl, hb⟩
  rw [show valE 2 (List.replicate 129 ⟨0, 0, 0⟩) = 5 by decide +kernel]
  have hq := hb
  have HBw21 := Lib.hid (HBw20.out.trans (hq.mono HBw20.out.size))
  have HGw21 := Lib.hid (HGw20.out.below hq)
  clear hq hb
  go_wp2_with fail
  refine (awake_any _).mono ?_
  rintro e w22 ⟨rfl, hb⟩
  have hq := hb
  have HBw22 := Lib.hid (HBw21.out.trans (hq.mono HBw21.out.size))
  have HGw22 := Lib.hid (HGw21.out.below hq)
  clear hq hb
  go_wp2_with fail
  go_ret
  exact ⟨rfl, HBw22.out⟩

end Go.Proofs.Ytfmjcjkifjndgaa
