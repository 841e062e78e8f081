/- Packets, pure: what Read says of bytes of which one is changed; of a part, and of more. -/
import Derived.Test.YtgdfpmnbofnjfaaPkG
namespace Go.Proofs.Ytgdfpmnbofnjfaa
open Go.RowKit Go.Shelf
set_option linter.unusedVariables false
set_option linter.unusedSimpArgs false
set_option maxRecDepth 100000

/-- What Read accepts is what Bytes writes. -/
theorem fread_ok {bs : List Int} (h : (fread bs).2.1 = 0) : (szP bs).2.1 = 0 ∧ (szP bs).1 = bs.length ∧ fchk (fread bs).1 = 0 ∧ fenc (fread bs).1 = bs ∧ (fread bs).2.2 = 0 ∧ (fread bs).1 = dcP bs := by
  unfold fread at h ⊢
  by_cases h1 : (szP bs).2.1 ≠ 0
  · rw [if_pos h1] at h; exact absurd h h1
  rw [if_neg h1] at h ⊢
  by_cases h2 : (bs.length : Int) < (szP bs).1
  · rw [if_pos h2] at h; simp at h
  rw [if_neg h2] at h ⊢
  by_cases h3 : (szP bs).1 < (bs.length : Int)
  · rw [if_pos h3] at h; simp at h
  rw [if_neg h3] at h ⊢
  by_cases h4 : fchk (dcP bs) = 0 ∧ fenc (dcP bs) = bs
  · rw [if_pos h4]
    exact ⟨by omega, by omega, h4.1, h4.2, rfl, rfl⟩
  · rw [if_neg h4] at h; simp at h
theorem szP_at (bs : List Int) (h : (szP bs).2.1 ≠ 0) : 0 ≤ (szP bs).2.2 ∧ (szP bs).2.2 ≤ bs.length := by
  unfold szP at h ⊢
  by_cases h1 : bs.length < 14
  · rw [if_pos h1]; exact ⟨Int.natCast_nonneg _, Int.le_refl _⟩
  rw [if_neg h1] at h ⊢
  by_cases h2 : cod bs = 34997
  · rw [if_pos h2] at h; simp at h
  rw [if_neg h2] at h ⊢
  by_cases h3 : cod bs = 2054
  · rw [if_pos h3] at h; simp at h
  rw [if_neg h3] at h ⊢
  by_cases h4 : cod bs = 2048
  · rw [if_pos h4] at h ⊢
    by_cases h5 : bs.length < 34
    · rw [if_pos h5]; exact ⟨Int.natCast_nonneg _, Int.le_refl _⟩
    rw [if_neg h5] at h
    split at h <;> simp at h
  rw [if_neg h4]
  exact ⟨by decide, by simp; omega⟩
theorem szP_nn (bs : List Int) : 0 ≤ (szP bs).1 := by
  have z : ∀ (a b : Int), 0 ≤ ((0 : Int), a, b).1 := fun _ _ => Int.le_refl _
  unfold szP
  split
  · exact z _ _
  split
  · show (0 : Int) ≤ 22; decide
  split
  · show (0 : Int) ≤ 50; decide
  split
  · split
    · exact z _ _
    split
    · show (0 : Int) ≤ 50; decide
    · show (0 : Int) ≤ 42; decide
  · exact z _ _
/-- What Read rejects: no frame, and a place within. -/
theorem fread_bad {bs : List Int} (h : (fread bs).2.1 ≠ 0) : (fread bs).1 = fr0 ∧ 0 ≤ (fread bs).2.2 ∧ (fread bs).2.2 ≤ bs.length := by
  unfold fread at h ⊢
  by_cases h1 : (szP bs).2.1 ≠ 0
  · rw [if_pos h1]; exact ⟨rfl, szP_at bs h1⟩
  rw [if_neg h1] at h ⊢
  by_cases h2 : (bs.length : Int) < (szP bs).1
  · rw [if_pos h2]; exact ⟨rfl, by simp, by simp⟩
  rw [if_neg h2] at h ⊢
  by_cases h3 : (szP bs).1 < (bs.length : Int)
  · rw [if_pos h3]; exact ⟨rfl, szP_nn bs, by simp; omega⟩
  rw [if_neg h3] at h ⊢
  by_cases h4 : fchk (dcP bs) = 0 ∧ fenc (dcP bs) = bs
  · rw [if_pos h4] at h; simp at h
  · rw [if_neg h4]; exact ⟨rfl, by simp, by simp⟩

theorem nm_head {bs cs : List Int} {p m n : Nat} (h : bs.take n = cs.take n) (hp : p + m ≤ n) : nm bs p m = nm cs p m := by
  unfold nm
  have e : ∀ l : List Int, (l.drop p).take m = ((l.take n).drop p).take m := fun l => by
    rw [List.drop_take, List.take_take, Nat.min_eq_left (by omega)]
  rw [e bs, e cs, h]
theorem enc_cod {x : FR} (hc : fchk x = 0) : cod (fenc x) = fcode x.k := by
  rcases perr_k (fchk_zero hc).2.2.2.1 with hk | hk | hk
  · rw [hk, enc_d hk]; exact nm_seg [(x.d, 6), (x.s, 6)] 34997 2 [(x.da, 8)] (by omega) (by omega)
  · rw [hk, enc_a hk]; exact nm_seg [(x.d, 6), (x.s, 6)] 2054 2 [(4429186564, 6), (x.op, 2), (x.sm, 6), (x.si, 4), (x.tm, 6), (x.ti, 4), (x.da, 8)] (by omega) (by omega)
  · cases hp : pd x.pr
    · rw [hk, enc_f hk hp]; exact nm_seg [(x.d, 6), (x.s, 6)] 2048 2 (segH x _ ++ [(x.da, 8)]) (by omega) (by omega)
    · rw [hk, enc_t hk hp]; exact nm_seg [(x.d, 6), (x.s, 6)] 2048 2 (segH x _ ++ [(x.sp, 2), (x.dp, 2), (16, 2), (0, 2), (x.da, 8)]) (by omega) (by omega)
theorem enc_hdr {x : FR} (hk : x.k = 2) : ((fenc x).drop 14).take 20 = hdrS x := by
  unfold hdrS
  rw [hdr_seg]
  cases hp : pd x.pr
  · rw [enc_f hk hp]; exact part_seg [(x.d, 6), (x.s, 6), (2048, 2)] (segH x _) [(x.da, 8)]
  · rw [enc_t hk hp]; exact part_seg [(x.d, 6), (x.s, 6), (2048, 2)] (segH x _) [(x.sp, 2), (x.dp, 2), (16, 2), (0, 2), (x.da, 8)]
theorem enc_len2 {x : FR} (hk : x.k = 2) : 42 ≤ (fenc x).length := by
  cases hp : pd x.pr
  · rw [enc_f hk hp, flat_len]; exact Nat.le_refl 42
  · rw [enc_t hk hp, flat_len]; show 42 ≤ 50; decide

/-- A byte of the header changed: rejected, unless it is what it was. -/
theorem sums_pure {x : FR} (hx : x.ty) (hc : fchk x = 0) (hk : x.k = 2) (a : Nat) (h14 : 14 ≤ a) (h34 : a < 34) (hl : a < (fenc x).length) (u : Int) (h0 : 0 ≤ u) (h1 : u ≤ 255) :
    ((fread ((fenc x).set a u)).2.1 == 0) = (u == (fenc x)[a]) := by
  by_cases hu : u = (fenc x)[a]
  · rw [hu, List.set_getElem_self, fread_enc hx hc]
    simp
  · have hne : (fread ((fenc x).set a u)).2.1 ≠ 0 := by
      intro h
      obtain ⟨_, _, hc2, he, _, _⟩ := fread_ok h
      generalize (fread ((fenc x).set a u)).1 = y at hc2 he
      have hcod : cod (fenc y) = cod (fenc x) := by
        rw [he]
        refine nm_head (n := 14) ?_ (by omega)
        rw [List.take_set_of_le (by omega)]
      rw [enc_cod hc, enc_cod hc2, hk] at hcod
      have hky : y.k = 2 := by
        rcases perr_k (fchk_zero hc2).2.2.2.1 with h | h | h
        · rw [h] at hcod; exact absurd hcod (by decide)
        · rw [h] at hcod; exact absurd hcod (by decide)
        · exact h
      have hh : hdrS y = (hdrS x).set (a - 14) u := by
        rw [← enc_hdr hky, he, ← enc_hdr hk, List.drop_set, if_neg (by omega), List.take_set]
      have hil : a - 14 < (hdrS x).length := by unfold hdrS; rw [hdr_len]; omega
      have h2 := hdrS_other x y (a - 14) hil u h0 h1 hh
      refine hu (h2.trans ?_)
      have h3 : (hdrS x)[a - 14]? = (fenc x)[a]? := by
        rw [← enc_hdr hk, List.getElem?_take_of_lt (by omega), List.getElem?_drop]
        congr 1
        omega
      rw [List.getElem?_eq_getElem hil, List.getElem?_eq_getElem hl] at h3
      exact Option.some.inj h3
    rw [beq_eq_false_iff_ne.2 hne, beq_eq_false_iff_ne.2 hu]

/-- The beginning of a frame. -/
theorem fread_cut {bs : List Int} (h : (fread bs).2.1 = 0) (cut : Nat) (hcut : cut < bs.length) : fread (bs.take cut) = (fr0, 4, (cut : Int)) := by
  obtain ⟨h1, h2, _⟩ := fread_ok h
  have hl : (bs.take cut).length = cut := by simp; omega
  by_cases c14 : cut < 14
  · unfold fread szP
    rw [if_pos (show (bs.take cut).length < 14 by omega), if_pos (show (4 : Int) ≠ 0 by decide), hl]
  have hcod : cod (bs.take cut) = cod bs := nm_head (n := cut) (by rw [List.take_take, Nat.min_self]) (by omega)
  have key : (szP (bs.take cut) = (0, 4, (cut : Int))) ∨ (szP (bs.take cut) = (szP bs)) := by
    unfold szP at h1 ⊢
    rw [if_neg (by omega)] at h1
    rw [if_neg (by omega), hcod, if_neg (show ¬ bs.length < 14 by omega)]
    by_cases k1 : cod bs = 34997
    · rw [if_pos k1, if_pos k1]; exact .inr rfl
    rw [if_neg k1, if_neg k1]
    by_cases k2 : cod bs = 2054
    · rw [if_pos k2, if_pos k2]; exact .inr rfl
    rw [if_neg k2, if_neg k2]
    by_cases k3 : cod bs = 2048
    · rw [if_pos k3, if_pos k3]
      by_cases k4 : cut < 34
      · rw [if_pos (by omega), hl]; exact .inl rfl
      · rw [if_neg (show ¬ (bs.take cut).length < 34 by omega), if_neg (show ¬ bs.length < 34 by omega), nm_head (bs := bs.take cut) (cs := bs) (n := cut) (p := 23) (m := 1) (by rw [List.take_take, Nat.min_self]) (by omega)]
        exact .inr rfl
    rw [if_neg k3, if_neg k3]; exact .inr rfl
  unfold fread
  rcases key with k | k
  · rw [k, if_pos (show (4 : Int) ≠ 0 by decide)]
  · rw [k, if_neg (by omega), hl, if_pos (by omega)]

/-- A frame and more. -/
theorem fread_more {bs more : List Int} (h : (fread bs).2.1 = 0) (hm : 0 < more.length) : fread (bs ++ more) = (fr0, 5, (bs.length : Int)) := by
  obtain ⟨h1, h2, _⟩ := fread_ok h
  have hl : (bs ++ more).length = bs.length + more.length := by simp
  have c14 : ¬ bs.length < 14 := by
    intro hc
    unfold szP at h1
    rw [if_pos hc] at h1
    simp at h1
  have hnm : ∀ p m, p + m ≤ bs.length → nm (bs ++ more) p m = nm bs p m := fun p m hp => nm_head (n := bs.length) (by rw [List.take_left, List.take_length]) hp
  have key : szP (bs ++ more) = szP bs := by
    have hcod : cod (bs ++ more) = cod bs := hnm 12 2 (by omega)
    unfold szP at h1 ⊢
    rw [if_neg c14] at h1
    rw [if_neg (show ¬ (bs ++ more).length < 14 by omega), hcod, if_neg c14]
    by_cases k1 : cod bs = 34997
    · rw [if_pos k1, if_pos k1]
    rw [if_neg k1, if_neg k1]
    by_cases k2 : cod bs = 2054
    · rw [if_pos k2, if_pos k2]
    rw [if_neg k2, if_neg k2]
    by_cases k3 : cod bs = 2048
    · rw [if_neg k1, if_neg k2, if_pos k3] at h1
      by_cases k4 : bs.length < 34
      · rw [if_pos k4] at h1; simp at h1
      · rw [if_pos k3, if_pos k3, if_neg (by omega), if_neg k4, hnm 23 1 (by omega)]
    rw [if_neg k3, if_neg k3]
  unfold fread
  rw [key, if_neg (by omega), hl, if_neg (by omega), if_pos (by omega), h2]

end Go.Proofs.Ytgdfpmnbofnjfaa
