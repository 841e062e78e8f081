/- Packets: the document's Read; written by gen_pkr5.py. -/
import Derived.Test.YtgdfpmnbofnjfaaZPkR5
namespace Go.Proofs.Ytgdfpmnbofnjfaa
open Go.RowKit Go.Shelf
set_option linter.unusedVariables false
set_option linter.unusedSimpArgs false
set_option maxRecDepth 100000

set_option maxHeartbeats 8000000 in
theorem rread_d (b o c : Nat) (bs : List Int) (w : World) (hs : Sl w b o bs) (hl : 14 ≤ bs.length) (hm : bs.length ≤ 1000) (hby : ∀ v ∈ bs, 0 ≤ v ∧ v ≤ 255) (hk : cod bs = 34997) :
    Calls Try.prog 40 #[.slice (some ⟨b, o, none⟩) bs.length c] w (ReadsTo w bs) := by
  have hblt := cell_block (hs 0 (by omega))
  have hblt' : b < w.heap.size := hblt
  have HSl : Hid (∀ W, Below w.heap.size w W → Sl W b o bs) := Lib.hid (fun W hb j hj => (hb.cell (p := ⟨b, o + j, none⟩) hblt).trans (hs j hj))
  have hsz : szP bs = (22, 0, 0) := by unfold szP; rw [if_neg (show ¬ bs.length < 14 by omega), if_pos hk]
  obtain ⟨n, hn⟩ : ∃ n, bs.length = n := ⟨_, rfl⟩
  obtain ⟨t0, ht0⟩ : ∃ t, nm bs 0 6 = t := ⟨_, rfl⟩
  obtain ⟨t6, ht6⟩ : ∃ t, nm bs 6 6 = t := ⟨_, rfl⟩
  have HT0 : Hid (∀ W, Below w.heap.size w W → Calls Try.prog 39 #[.slice (some ⟨b, o, none⟩) n c, .int .i64 0, .int .i64 6] W fun e w' => e = .returned (.int .u64 t0) ∧ W = w') := Lib.hid (fun W hb => by
    have h := rtake_any b o c n bs hn 0 6 (by decide) (by decide) (by omega) (by omega) hby W (HSl.out W hb)
    rw [ht0] at h
    exact h)
  have HT6 : Hid (∀ W, Below w.heap.size w W → Calls Try.prog 39 #[.slice (some ⟨b, o, none⟩) n c, .int .i64 6, .int .i64 6] W fun e w' => e = .returned (.int .u64 t6) ∧ W = w') := Lib.hid (fun W hb => by
    have h := rtake_any b o c n bs hn 6 6 (by decide) (by decide) (by omega) (by omega) hby W (HSl.out W hb)
    rw [ht6] at h
    exact h)
  have HT12 : Hid (∀ W, Below w.heap.size w W → Calls Try.prog 39 #[.slice (some ⟨b, o, none⟩) n c, .int .i64 12, .int .i64 2] W fun e w' => e = .returned (.int .u64 34997) ∧ W = w') := Lib.hid (fun W hb => by
    have h := rtake_any b o c n bs hn 12 2 (by decide) (by decide) (by omega) (by omega) hby W (HSl.out W hb)
    rw [show nm bs 12 2 = 34997 from hk] at h
    exact h)
  by_cases hlt : bs.length < 22
  · have HF : Hid (fread bs = (fr0, 4, (n : Int))) := Lib.hid (by unfold fread; rw [hsz, if_neg (by decide), if_pos (show (bs.length : Int) < 22 by omega), hn])
    rw [hn] at hl hlt ⊢
    have e1 : ¬ ((n : Int) < 14) := by omega
    have e2 : (n : Int) < 22 := by omega
    clear hn ht0 ht6 hs hby hsz hk
    obtain ⟨W2, hW2⟩ : ∃ W2, ((w.alloc (.cells #[.int .u64 0, .int .u64 0, .int .i64 0, .int .i64 0, .int .u64 0, .int .u32 0, .int .u64 0, .int .u32 0, .int .u32 0, .int .u32 0, .int .i64 0, .int .i64 0, .int .i64 0, .int .i64 0, .int .u64 0] 32)).alloc (.cells #[.int .i64 0, .int .i64 0] 37)) = W2 := ⟨_, rfl⟩
    have HW : Hid (RW w fr0 0 0 W2) := Lib.hid (hW2 ▸ RW.start w)
    have HB2 : Hid (Below w.heap.size w W2) := Lib.hid HW.out.lo
    have HB3 : Hid (∀ ob, Below w.heap.size w (W2.alloc ob)) := Lib.hid (fun ob => HB2.out.alloc HB2.out.size ob)
    go_enter Try.func40, Try.ntmps40
    go_upto_region 1 with fail
    try rw [hW2]
    clear hW2
    have HW3 : Hid (RW w fr0 0 0 (W2.alloc (.cells #[.int .u64 t6, .int .u64 t0, .int .i64 0, .int .i64 0, .int .u64 0, .int .u32 0, .int .u64 0, .int .u32 0, .int .u32 0, .int .u32 0, .int .i64 0, .int .i64 0, .int .i64 0, .int .i64 0, .int .u64 0] 32))) := Lib.hid (HW.out.below ((Below.refl _ W2).alloc (Nat.le_refl _) _))
    go_wp2_with fail
    refine (HT0.out _ (HB2.out)).mono ?_
    rintro e wt0 ⟨rfl, rfl⟩
    go_wp2_with fail
    refine (HT6.out _ (HB2.out)).mono ?_
    rintro e wt6 ⟨rfl, rfl⟩
    go_wp2_with fail
    refine (HT12.out _ (HB3.out _)).mono ?_
    rintro e wt12 ⟨rfl, rfl⟩
    go_wp2_with (refine wpList_store_row rfl 32 (.tmp 2) (.tmp 46) rfl w.heap.size fr0.cs rfl rfl 32 fr0.cs HW3.out.zer (FR.fit fr0) rfl (FR.one fr0) ?_; have HW5 := Lib.hid (HW3.out.row fr0); generalize (W2.alloc (.cells #[.int .u64 t6, .int .u64 t0, .int .i64 0, .int .i64 0, .int .u64 0, .int .u32 0, .int .u64 0, .int .u32 0, .int .u32 0, .int .u32 0, .int .i64 0, .int .i64 0, .int .i64 0, .int .i64 0, .int .u64 0] 32)).setRow w.heap.size fr0.cs = W5 at HW5 ⊢; have q0 := HW5.out.flt.cell 0; have q1 := HW5.out.flt.cell 1; have p0 := HW5.out.flt.free 0; have p1 := HW5.out.flt.free 1; simp only [List.getElem?_toArray, List.getElem?_cons_zero, List.getElem?_cons_succ] at q0 q1)
    have HE := Lib.hid (HW5.out.set 4 (n : Int))
    exact bodyPost_ret (v := .tuple #[.agg fr0.cs, .agg #[.int .i64 4, .int .i64 n]]) (rread_results _ rfl rfl HE.out) rfl ⟨by rw [HF.out], HE.out.lo⟩
  by_cases hgt : 22 < bs.length
  · have HF : Hid (fread bs = (fr0, 5, 22)) := Lib.hid (by unfold fread; rw [hsz, if_neg (by decide), if_neg (show ¬ (bs.length : Int) < 22 by omega), if_pos (show (22 : Int) < (bs.length : Int) by omega)])
    rw [hn] at hl hlt hgt ⊢
    have e1 : ¬ ((n : Int) < 14) := by omega
    have e2 : ¬ ((n : Int) < 22) := by omega
    have e4 : (22 : Int) < (n : Int) := by omega
    clear hn ht0 ht6 hs hby hsz hk
    obtain ⟨W2, hW2⟩ : ∃ W2, ((w.alloc (.cells #[.int .u64 0, .int .u64 0, .int .i64 0, .int .i64 0, .int .u64 0, .int .u32 0, .int .u64 0, .int .u32 0, .int .u32 0, .int .u32 0, .int .i64 0, .int .i64 0, .int .i64 0, .int .i64 0, .int .u64 0] 32)).alloc (.cells #[.int .i64 0, .int .i64 0] 37)) = W2 := ⟨_, rfl⟩
    have HW : Hid (RW w fr0 0 0 W2) := Lib.hid (hW2 ▸ RW.start w)
    have HB2 : Hid (Below w.heap.size w W2) := Lib.hid HW.out.lo
    have HB3 : Hid (∀ ob, Below w.heap.size w (W2.alloc ob)) := Lib.hid (fun ob => HB2.out.alloc HB2.out.size ob)
    go_enter Try.func40, Try.ntmps40
    go_upto_region 1 with fail
    try rw [hW2]
    clear hW2
    have HW3 : Hid (RW w fr0 0 0 (W2.alloc (.cells #[.int .u64 t6, .int .u64 t0, .int .i64 0, .int .i64 0, .int .u64 0, .int .u32 0, .int .u64 0, .int .u32 0, .int .u32 0, .int .u32 0, .int .i64 0, .int .i64 0, .int .i64 0, .int .i64 0, .int .u64 0] 32))) := Lib.hid (HW.out.below ((Below.refl _ W2).alloc (Nat.le_refl _) _))
    go_wp2_with fail
    refine (HT0.out _ (HB2.out)).mono ?_
    rintro e wt0 ⟨rfl, rfl⟩
    go_wp2_with fail
    refine (HT6.out _ (HB2.out)).mono ?_
    rintro e wt6 ⟨rfl, rfl⟩
    go_wp2_with fail
    refine (HT12.out _ (HB3.out _)).mono ?_
    rintro e wt12 ⟨rfl, rfl⟩
    go_wp2_with (refine wpList_store_row rfl 32 (.tmp 2) (.tmp 54) rfl w.heap.size fr0.cs rfl rfl 32 fr0.cs HW3.out.zer (FR.fit fr0) rfl (FR.one fr0) ?_; have HW5 := Lib.hid (HW3.out.row fr0); generalize (W2.alloc (.cells #[.int .u64 t6, .int .u64 t0, .int .i64 0, .int .i64 0, .int .u64 0, .int .u32 0, .int .u64 0, .int .u32 0, .int .u32 0, .int .u32 0, .int .i64 0, .int .i64 0, .int .i64 0, .int .i64 0, .int .u64 0] 32)).setRow w.heap.size fr0.cs = W5 at HW5 ⊢; have q0 := HW5.out.flt.cell 0; have q1 := HW5.out.flt.cell 1; have p0 := HW5.out.flt.free 0; have p1 := HW5.out.flt.free 1; simp only [List.getElem?_toArray, List.getElem?_cons_zero, List.getElem?_cons_succ] at q0 q1)
    have HE := Lib.hid (HW5.out.set 5 22)
    exact bodyPost_ret (v := .tuple #[.agg fr0.cs, .agg #[.int .i64 5, .int .i64 22]]) (rread_results _ rfl rfl HE.out) rfl ⟨by rw [HF.out], HE.out.lo⟩
  have hE : bs.length = 22 := by omega
  obtain ⟨t14, ht14⟩ : ∃ t, nm bs 14 8 = t := ⟨_, rfl⟩
  have HT14 : Hid (∀ W, Below w.heap.size w W → Calls Try.prog 39 #[.slice (some ⟨b, o, none⟩) n c, .int .i64 14, .int .i64 8] W fun e w' => e = .returned (.int .u64 t14) ∧ W = w') := Lib.hid (fun W hb => by
    have h := rtake_any b o c n bs hn 14 8 (by decide) (by decide) (by omega) (by omega) hby W (HSl.out W hb)
    rw [ht14] at h
    exact h)
  have hty := dcP_ty hby
  obtain ⟨x, hx⟩ : ∃ x, dcP bs = x := ⟨_, rfl⟩
  have hcs : x.cs = #[.int .u64 t6, .int .u64 t0, .int .i64 0, .int .i64 0, .int .u64 0, .int .u32 0, .int .u64 0, .int .u32 0, .int .u32 0, .int .u32 0, .int .i64 0, .int .i64 0, .int .i64 0, .int .i64 0, .int .u64 t14] := by
    rw [← hx]
    unfold dcP
    rw [if_neg (by omega), if_neg (by omega)]
    simp only [dDF, FR.cs, ht0, ht6, ht14]
  rw [hx] at hty
  have hfit := x.fit
  have hone := x.one
  have HBy := Lib.hid hby
  have HAr : Hid (∀ W, Below w.heap.size w W → Arr W (.slice (some ⟨b, o, none⟩) n c) bs) := Lib.hid (fun W hb => .inr ⟨_, c, by rw [hn], Sl.at_ (HSl.out W hb)⟩)
  have hfr : ∀ r, (if fchk x = 0 ∧ fenc x = bs then (x, (0 : Int), (0 : Int)) else (fr0, 3, 0)) = r → fread bs = r := fun r h => by
    unfold fread
    rw [hsz, if_neg (by decide), if_neg (show ¬ (bs.length : Int) < 22 by omega), if_neg (show ¬ (22 : Int) < (bs.length : Int) by omega), hx]
    exact h
  have HFr := Lib.hid hfr
  have HCs := Lib.hid hcs
  have HNe := Lib.hid hn
  rw [hn] at hl hlt hgt hE ⊢
  have e1 : ¬ ((n : Int) < 14) := by omega
  have e2 : ¬ ((n : Int) < 22) := by omega
  have e4 : ¬ ((22 : Int) < (n : Int)) := by omega
  clear hE hn hs hby hsz hk hx hfr hcs hfit hone ht0 ht6 ht14
  by_cases hc : fchk x = 0
  case neg =>
    have HF : Hid (fread bs = (fr0, 3, 0)) := Lib.hid (HFr.out _ (if_neg (fun h => hc h.1)))
    obtain ⟨ec, hec⟩ : ∃ ec, fchk x = ec := ⟨_, rfl⟩
    have HY : Hid (∀ W : World, Calls Try.prog 33 #[.agg #[.int .u64 t6, .int .u64 t0, .int .i64 0, .int .i64 0, .int .u64 0, .int .u32 0, .int .u64 0, .int .u32 0, .int .u32 0, .int .u32 0, .int .i64 0, .int .i64 0, .int .i64 0, .int .i64 0, .int .u64 t14]] W fun e w' => e = .returned (.tuple #[.slice none 0 0, .int .i64 ec]) ∧ Below W.heap.size W w') := Lib.hid (fun W => by
      have h := rbytes_no x hty hc W
      rw [HCs.out, hec] at h
      exact h)
    rw [hec] at hc
    have hne : (ec != 0) = true := by simpa using hc
    clear hec hc hty
    obtain ⟨W2, hW2⟩ : ∃ W2, ((w.alloc (.cells #[.int .u64 0, .int .u64 0, .int .i64 0, .int .i64 0, .int .u64 0, .int .u32 0, .int .u64 0, .int .u32 0, .int .u32 0, .int .u32 0, .int .i64 0, .int .i64 0, .int .i64 0, .int .i64 0, .int .u64 0] 32)).alloc (.cells #[.int .i64 0, .int .i64 0] 37)) = W2 := ⟨_, rfl⟩
    have HW : Hid (RW w fr0 0 0 W2) := Lib.hid (hW2 ▸ RW.start w)
    have HB2 : Hid (Below w.heap.size w W2) := Lib.hid HW.out.lo
    have HB3 : Hid (∀ ob, Below w.heap.size w (W2.alloc ob)) := Lib.hid (fun ob => HB2.out.alloc HB2.out.size ob)
    go_enter Try.func40, Try.ntmps40
    go_upto_region 1 with fail
    try rw [hW2]
    clear hW2
    go_wp2_with fail
    refine (HT0.out _ (HB2.out)).mono ?_
    rintro e wt0 ⟨rfl, rfl⟩
    go_wp2_with fail
    refine (HT6.out _ (HB2.out)).mono ?_
    rintro e wt6 ⟨rfl, rfl⟩
    go_wp2_with fail
    refine (HT12.out _ (HB3.out _)).mono ?_
    rintro e wt12 ⟨rfl, rfl⟩
    go_wp2_with fail
    refine (HT14.out _ (HB3.out _)).mono ?_
    rintro e wt14 ⟨rfl, rfl⟩
    go_wp2_with fail
    have HWX : Hid (RW w fr0 0 0 (W2.alloc (.cells #[.int .u64 t6, .int .u64 t0, .int .i64 0, .int .i64 0, .int .u64 0, .int .u32 0, .int .u64 0, .int .u32 0, .int .u32 0, .int .u32 0, .int .i64 0, .int .i64 0, .int .i64 0, .int .i64 0, .int .u64 t14] 32))) := Lib.hid (HW.out.below ((Below.refl _ W2).alloc (Nat.le_refl _) _))
    have HBX : Hid (Has (W2.alloc (.cells #[.int .u64 t6, .int .u64 t0, .int .i64 0, .int .i64 0, .int .u64 0, .int .u32 0, .int .u64 0, .int .u32 0, .int .u32 0, .int .u32 0, .int .i64 0, .int .i64 0, .int .i64 0, .int .i64 0, .int .u64 t14] 32)) W2.heap.size 32 x.cs) := Lib.hid (HCs.out ▸ Has.new W2 _ _)
    refine (HY.out _).mono ?_
    rintro e w7 ⟨rfl, hb⟩
    have HW7 := Lib.hid (HWX.out.below hb)
    have HB7 := Lib.hid (HBX.out.below hb)
    clear hb HWX HBX
    go_wp2_with (first | (refine wpList_store_row rfl 32 (.tmp 2) (.tmp 125) rfl w.heap.size fr0.cs rfl rfl 32 fr0.cs HW7.out.zer (FR.fit fr0) rfl (FR.one fr0) ?_; have HW5 := Lib.hid (HW7.out.row fr0); generalize w7.setRow w.heap.size fr0.cs = W5 at HW5 ⊢; have q0 := HW5.out.flt.cell 0; have q1 := HW5.out.flt.cell 1; have p0 := HW5.out.flt.free 0; have p1 := HW5.out.flt.free 1; simp only [List.getElem?_toArray, List.getElem?_cons_zero, List.getElem?_cons_succ] at q0 q1))
    have HE := Lib.hid (HW5.out.set 3 0)
    exact bodyPost_ret (v := .tuple #[.agg fr0.cs, .agg #[.int .i64 3, .int .i64 0]]) (rread_results _ rfl rfl HE.out) rfl ⟨by rw [HF.out], HE.out.lo⟩
  by_cases hq : fenc x = bs
  case neg =>
    have HF : Hid (fread bs = (fr0, 3, 0)) := Lib.hid (HFr.out _ (if_neg (fun h => hq h.2)))
    obtain ⟨m, hm9⟩ : ∃ m, (fenc x).length = m := ⟨_, rfl⟩
    have HY : Hid (∀ W : World, Calls Try.prog 33 #[.agg #[.int .u64 t6, .int .u64 t0, .int .i64 0, .int .i64 0, .int .u64 0, .int .u32 0, .int .u64 0, .int .u32 0, .int .u32 0, .int .u32 0, .int .i64 0, .int .i64 0, .int .i64 0, .int .i64 0, .int .u64 t14]] W fun e w' => ∃ b c, e = .returned (.tuple #[.slice (some ⟨b, 0, none⟩) m c, .int .i64 0]) ∧ Row w' b c (fenc x) ∧ W.heap.size ≤ b ∧ Below W.heap.size W w') := Lib.hid (fun W => by
      have h := rbytes_yes x hty hc W
      unfold Enc at h
      rw [HCs.out, hm9] at h
      exact h)
    have HM := Lib.hid hm9
    have HQ := Lib.hid hq
    clear hm9 hq hc hty
    obtain ⟨W2, hW2⟩ : ∃ W2, ((w.alloc (.cells #[.int .u64 0, .int .u64 0, .int .i64 0, .int .i64 0, .int .u64 0, .int .u32 0, .int .u64 0, .int .u32 0, .int .u32 0, .int .u32 0, .int .i64 0, .int .i64 0, .int .i64 0, .int .i64 0, .int .u64 0] 32)).alloc (.cells #[.int .i64 0, .int .i64 0] 37)) = W2 := ⟨_, rfl⟩
    have HW : Hid (RW w fr0 0 0 W2) := Lib.hid (hW2 ▸ RW.start w)
    have HB2 : Hid (Below w.heap.size w W2) := Lib.hid HW.out.lo
    have HB3 : Hid (∀ ob, Below w.heap.size w (W2.alloc ob)) := Lib.hid (fun ob => HB2.out.alloc HB2.out.size ob)
    go_enter Try.func40, Try.ntmps40
    go_upto_region 1 with fail
    try rw [hW2]
    clear hW2
    go_wp2_with fail
    refine (HT0.out _ (HB2.out)).mono ?_
    rintro e wt0 ⟨rfl, rfl⟩
    go_wp2_with fail
    refine (HT6.out _ (HB2.out)).mono ?_
    rintro e wt6 ⟨rfl, rfl⟩
    go_wp2_with fail
    refine (HT12.out _ (HB3.out _)).mono ?_
    rintro e wt12 ⟨rfl, rfl⟩
    go_wp2_with fail
    refine (HT14.out _ (HB3.out _)).mono ?_
    rintro e wt14 ⟨rfl, rfl⟩
    go_wp2_with fail
    have HWX : Hid (RW w fr0 0 0 (W2.alloc (.cells #[.int .u64 t6, .int .u64 t0, .int .i64 0, .int .i64 0, .int .u64 0, .int .u32 0, .int .u64 0, .int .u32 0, .int .u32 0, .int .u32 0, .int .i64 0, .int .i64 0, .int .i64 0, .int .i64 0, .int .u64 t14] 32))) := Lib.hid (HW.out.below ((Below.refl _ W2).alloc (Nat.le_refl _) _))
    have HBX : Hid (Has (W2.alloc (.cells #[.int .u64 t6, .int .u64 t0, .int .i64 0, .int .i64 0, .int .u64 0, .int .u32 0, .int .u64 0, .int .u32 0, .int .u32 0, .int .u32 0, .int .i64 0, .int .i64 0, .int .i64 0, .int .i64 0, .int .u64 t14] 32)) W2.heap.size 32 x.cs) := Lib.hid (HCs.out ▸ Has.new W2 _ _)
    refine (HY.out _).mono ?_
    rintro e w7 ⟨b7, c7, rfl, hrow, hsz7, hb⟩
    have hst2 := arr_string (row_arr hrow rfl) (fenc_pos x)
    rw [HM.out] at hst2
    clear hrow hsz7
    have HW7 := Lib.hid (HWX.out.below hb)
    have HB7 := Lib.hid (HBX.out.below hb)
    clear hb HWX HBX
    have hst1 := arr_string (HAr.out _ HW7.out.lo) (by rw [HNe.out]; omega)
    have hns2 : ((strOfNums (fenc x)).toList == (strOfNums bs).toList) = false := by
      rw [ByteArray.toList_eq, ByteArray.toList_eq, strOfNums_data, strOfNums_data]
      exact beq_eq_false_iff_ne.2 (fun e => HQ.out (ofnat_inj _ _ (fenc_byte x) HBy.out e))
    generalize strOfNums bs = S at hst1 hns2
    generalize strOfNums (fenc x) = S2 at hst2 hns2
    go_wp2_with (first | (refine wpList_store_row rfl 32 (.tmp 2) (.tmp 125) rfl w.heap.size fr0.cs rfl rfl 32 fr0.cs HW7.out.zer (FR.fit fr0) rfl (FR.one fr0) ?_; have HW5 := Lib.hid (HW7.out.row fr0); generalize w7.setRow w.heap.size fr0.cs = W5 at HW5 ⊢; have q0 := HW5.out.flt.cell 0; have q1 := HW5.out.flt.cell 1; have p0 := HW5.out.flt.free 0; have p1 := HW5.out.flt.free 1; simp only [List.getElem?_toArray, List.getElem?_cons_zero, List.getElem?_cons_succ] at q0 q1))
    have HE := Lib.hid (HW5.out.set 3 0)
    exact bodyPost_ret (v := .tuple #[.agg fr0.cs, .agg #[.int .i64 3, .int .i64 0]]) (rread_results _ rfl rfl HE.out) rfl ⟨by rw [HF.out], HE.out.lo⟩
  · skip
    have HF : Hid (fread bs = (x, 0, 0)) := Lib.hid (HFr.out _ (if_pos ⟨hc, hq⟩))
    obtain ⟨m, hm9⟩ : ∃ m, (fenc x).length = m := ⟨_, rfl⟩
    have HY : Hid (∀ W : World, Calls Try.prog 33 #[.agg #[.int .u64 t6, .int .u64 t0, .int .i64 0, .int .i64 0, .int .u64 0, .int .u32 0, .int .u64 0, .int .u32 0, .int .u32 0, .int .u32 0, .int .i64 0, .int .i64 0, .int .i64 0, .int .i64 0, .int .u64 t14]] W fun e w' => ∃ b c, e = .returned (.tuple #[.slice (some ⟨b, 0, none⟩) m c, .int .i64 0]) ∧ Row w' b c (fenc x) ∧ W.heap.size ≤ b ∧ Below W.heap.size W w') := Lib.hid (fun W => by
      have h := rbytes_yes x hty hc W
      unfold Enc at h
      rw [HCs.out, hm9] at h
      exact h)
    have HM := Lib.hid hm9
    have HQ := Lib.hid hq
    clear hm9 hq hc hty
    obtain ⟨W2, hW2⟩ : ∃ W2, ((w.alloc (.cells #[.int .u64 0, .int .u64 0, .int .i64 0, .int .i64 0, .int .u64 0, .int .u32 0, .int .u64 0, .int .u32 0, .int .u32 0, .int .u32 0, .int .i64 0, .int .i64 0, .int .i64 0, .int .i64 0, .int .u64 0] 32)).alloc (.cells #[.int .i64 0, .int .i64 0] 37)) = W2 := ⟨_, rfl⟩
    have HW : Hid (RW w fr0 0 0 W2) := Lib.hid (hW2 ▸ RW.start w)
    have HB2 : Hid (Below w.heap.size w W2) := Lib.hid HW.out.lo
    have HB3 : Hid (∀ ob, Below w.heap.size w (W2.alloc ob)) := Lib.hid (fun ob => HB2.out.alloc HB2.out.size ob)
    go_enter Try.func40, Try.ntmps40
    go_upto_region 1 with fail
    try rw [hW2]
    clear hW2
    go_wp2_with fail
    refine (HT0.out _ (HB2.out)).mono ?_
    rintro e wt0 ⟨rfl, rfl⟩
    go_wp2_with fail
    refine (HT6.out _ (HB2.out)).mono ?_
    rintro e wt6 ⟨rfl, rfl⟩
    go_wp2_with fail
    refine (HT12.out _ (HB3.out _)).mono ?_
    rintro e wt12 ⟨rfl, rfl⟩
    go_wp2_with fail
    refine (HT14.out _ (HB3.out _)).mono ?_
    rintro e wt14 ⟨rfl, rfl⟩
    go_wp2_with fail
    have HWX : Hid (RW w fr0 0 0 (W2.alloc (.cells #[.int .u64 t6, .int .u64 t0, .int .i64 0, .int .i64 0, .int .u64 0, .int .u32 0, .int .u64 0, .int .u32 0, .int .u32 0, .int .u32 0, .int .i64 0, .int .i64 0, .int .i64 0, .int .i64 0, .int .u64 t14] 32))) := Lib.hid (HW.out.below ((Below.refl _ W2).alloc (Nat.le_refl _) _))
    have HBX : Hid (Has (W2.alloc (.cells #[.int .u64 t6, .int .u64 t0, .int .i64 0, .int .i64 0, .int .u64 0, .int .u32 0, .int .u64 0, .int .u32 0, .int .u32 0, .int .u32 0, .int .i64 0, .int .i64 0, .int .i64 0, .int .i64 0, .int .u64 t14] 32)) W2.heap.size 32 x.cs) := Lib.hid (HCs.out ▸ Has.new W2 _ _)
    refine (HY.out _).mono ?_
    rintro e w7 ⟨b7, c7, rfl, hrow, hsz7, hb⟩
    have hst2 := arr_string (row_arr hrow rfl) (fenc_pos x)
    rw [HM.out] at hst2
    clear hrow hsz7
    have HW7 := Lib.hid (HWX.out.below hb)
    have HB7 := Lib.hid (HBX.out.below hb)
    clear hb HWX HBX
    have hst1 := arr_string (HAr.out _ HW7.out.lo) (by rw [HNe.out]; omega)
    rw [HQ.out] at hst2
    generalize strOfNums bs = S at hst1 hst2
    go_wp2_with (first | (refine wpList_load_row rfl 32 (.tmp 4) rfl W2.heap.size rfl 32 x.cs (0, 0) _ HB7.out Try.underlying32 rfl x.fit ?_) | (refine wpList_store_row rfl 32 (.tmp 2) (.tmp 127) rfl w.heap.size x.cs rfl rfl 32 fr0.cs HW7.out.zer (FR.fit x) rfl (FR.one x) ?_; have HW5 := Lib.hid (HW7.out.row x); generalize w7.setRow w.heap.size x.cs = W5 at HW5 ⊢; have q0 := HW5.out.flt.cell 0; have q1 := HW5.out.flt.cell 1; have p0 := HW5.out.flt.free 0; have p1 := HW5.out.flt.free 1; simp only [List.getElem?_toArray, List.getElem?_cons_zero, List.getElem?_cons_succ] at q0 q1))
    have HE := Lib.hid (HW5.out.set 0 0)
    exact bodyPost_ret (v := .tuple #[.agg x.cs, .agg #[.int .i64 0, .int .i64 0]]) (rread_results _ rfl rfl HE.out) rfl ⟨by rw [HF.out], HE.out.lo⟩

end Go.Proofs.Ytgdfpmnbofnjfaa
