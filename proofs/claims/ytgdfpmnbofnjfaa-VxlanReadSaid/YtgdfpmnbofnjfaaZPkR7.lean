/- Packets: the document's Read; written by gen_pkr5.py. -/
import Derived.Test.YtgdfpmnbofnjfaaZPkR5
namespace Go.Proofs.Ytgdfpmnbofnjfaa
open Go.RowKit Go.Shelf
set_option linter.unusedVariables false
set_option linter.unusedSimpArgs false
set_option maxRecDepth 100000

set_option maxHeartbeats 8000000 in
theorem rread_f (b o c : Nat) (bs : List Int) (w : World) (hs : Sl w b o bs) (hl : 14 ≤ bs.length) (hm : bs.length ≤ 1000) (hby : ∀ v ∈ bs, 0 ≤ v ∧ v ≤ 255) (hk : cod bs = 2048) (h34 : 34 ≤ bs.length) (hp : pd (nm bs 23 1) = false) :
    Calls Try.prog 40 #[.slice (some ⟨b, o, none⟩) bs.length c] w (ReadsTo w bs) := by
  have hblt := cell_block (hs 0 (by omega))
  have hblt' : b < w.heap.size := hblt
  have HSl : Hid (∀ W, Below w.heap.size w W → Sl W b o bs) := Lib.hid (fun W hb j hj => (hb.cell (p := ⟨b, o + j, none⟩) hblt).trans (hs j hj))
  have hsz : szP bs = (42, 0, 0) := by unfold szP; rw [if_neg (show ¬ bs.length < 14 by omega), if_neg (by omega), if_neg (by omega), if_pos hk, if_neg (show ¬ bs.length < 34 by omega), if_neg (by rw [hp]; decide)]
  obtain ⟨n, hn⟩ : ∃ n, bs.length = n := ⟨_, rfl⟩
  obtain ⟨t0, ht0⟩ : ∃ t, nm bs 0 6 = t := ⟨_, rfl⟩
  obtain ⟨t6, ht6⟩ : ∃ t, nm bs 6 6 = t := ⟨_, rfl⟩
  have HT0 : Hid (∀ W, Below w.heap.size w W → Calls Try.prog 39 #[.slice (some ⟨b, o, none⟩) n c, .int .i64 0, .int .i64 6] W fun e w' => e = .returned (.int .u64 t0) ∧ W = w') := Lib.hid (fun W hb => by
    have h := rtake_any b o c n bs hn 0 6 (by decide) (by decide) (by omega) (by omega) hby W (HSl.out W hb)
    rw [ht0] at h
    exact h)
  have HT6 : Hid (∀ W, Below w.heap.size w W → Calls Try.prog 39 #[.slice (some ⟨b, o, none⟩) n c, .int .i64 6, .int .i64 6] W fun e w' => e = .returned (.int .u64 t6) ∧ W = w') := Lib.hid (fun W hb => by
    have h := rtake_any b o c n bs hn 6 6 (by decide) (by decide) (by omega) (by omega) hby W (HSl.out W hb)
    rw [ht6] at h
    exact h)
  have HT12 : Hid (∀ W, Below w.heap.size w W → Calls Try.prog 39 #[.slice (some ⟨b, o, none⟩) n c, .int .i64 12, .int .i64 2] W fun e w' => e = .returned (.int .u64 2048) ∧ W = w') := Lib.hid (fun W hb => by
    have h := rtake_any b o c n bs hn 12 2 (by decide) (by decide) (by omega) (by omega) hby W (HSl.out W hb)
    rw [show nm bs 12 2 = 2048 from hk] at h
    exact h)
  have h22 := hs 22 (by omega)
  have h23 := hs 23 (by omega)
  have hb22 := hby bs[22] (List.getElem_mem _)
  have hb23 := hby bs[23] (List.getElem_mem _)
  have hn22 : nm bs 22 1 = bs[22] := nm_one (by omega)
  have hn23 : nm bs 23 1 = bs[23] := nm_one (by omega)
  obtain ⟨y22, hy22⟩ : ∃ y, bs[22] = y := ⟨_, rfl⟩
  obtain ⟨y23, hy23⟩ : ∃ y, bs[23] = y := ⟨_, rfl⟩
  rw [hy22] at h22 hb22 hn22
  rw [hy23] at h23 hb23 hn23
  obtain ⟨hb220, hb221⟩ := hb22
  obtain ⟨hb230, hb231⟩ := hb23
  have HC := Lib.hid (And.intro h22 h23)
  have HPd : Hid (∀ W : World, Calls Try.prog 61 #[.int .i64 y23] W fun e w' => e = .returned (.bool false) ∧ W = w') := Lib.hid (fun W => by
    have h := rported_any y23 W
    rw [← hn23, hp, hn23] at h
    exact h)
  by_cases hlt : bs.length < 42
  · have HF : Hid (fread bs = (fr0, 4, (n : Int))) := Lib.hid (by unfold fread; rw [hsz, if_neg (by decide), if_pos (show (bs.length : Int) < 42 by omega), hn])
    rw [hn] at hl hlt h34 ⊢
    have e1 : ¬ ((n : Int) < 14) := by omega
    have e2 : (n : Int) < 42 := by omega
    have e3 : (34 : Int) ≤ (n : Int) := by omega
    clear hn ht0 ht6 hs hby hsz hk hp hn22 hn23 hy22 hy23
    obtain ⟨W2, hW2⟩ : ∃ W2, ((w.alloc (.cells #[.int .u64 0, .int .u64 0, .int .i64 0, .int .i64 0, .int .u64 0, .int .u32 0, .int .u64 0, .int .u32 0, .int .u32 0, .int .u32 0, .int .i64 0, .int .i64 0, .int .i64 0, .int .i64 0, .int .u64 0] 32)).alloc (.cells #[.int .i64 0, .int .i64 0] 37)) = W2 := ⟨_, rfl⟩
    have HW : Hid (RW w fr0 0 0 W2) := Lib.hid (hW2 ▸ RW.start w)
    have HB2 : Hid (Below w.heap.size w W2) := Lib.hid HW.out.lo
    have HB3 : Hid (∀ ob, Below w.heap.size w (W2.alloc ob)) := Lib.hid (fun ob => HB2.out.alloc HB2.out.size ob)
    go_enter Try.func40, Try.ntmps40
    go_upto_region 1 with fail
    try rw [hW2]
    clear hW2
    have HW3 : Hid (RW w fr0 0 0 (W2.alloc (.cells #[.int .u64 t6, .int .u64 t0, .int .i64 2, .int .i64 0, .int .u64 0, .int .u32 0, .int .u64 0, .int .u32 0, .int .u32 0, .int .u32 0, .int .i64 0, .int .i64 0, .int .i64 0, .int .i64 0, .int .u64 0] 32))) := Lib.hid (HW.out.below ((Below.refl _ W2).alloc (Nat.le_refl _) _))
    have h23c := ((HB3.out (.cells #[.int .u64 t6, .int .u64 t0, .int .i64 2, .int .i64 0, .int .u64 0, .int .u32 0, .int .u64 0, .int .u32 0, .int .u32 0, .int .u32 0, .int .i64 0, .int .i64 0, .int .i64 0, .int .i64 0, .int .u64 0] 32)).cell (p := ⟨b, o + 23, none⟩) hblt').trans HC.out.2
    go_wp2_with fail
    refine (HT0.out _ (HB2.out)).mono ?_
    rintro e wt0 ⟨rfl, rfl⟩
    go_wp2_with fail
    refine (HT6.out _ (HB2.out)).mono ?_
    rintro e wt6 ⟨rfl, rfl⟩
    go_wp2_with fail
    refine (HT12.out _ (HB3.out _)).mono ?_
    rintro e wt12 ⟨rfl, rfl⟩
    go_wp2_with fail
    refine (HPd.out _).mono ?_
    rintro e w9 ⟨rfl, rfl⟩
    go_wp2_with (refine wpList_store_row rfl 32 (.tmp 2) (.tmp 46) rfl w.heap.size fr0.cs rfl rfl 32 fr0.cs HW3.out.zer (FR.fit fr0) rfl (FR.one fr0) ?_; have HW5 := Lib.hid (HW3.out.row fr0); generalize (W2.alloc (.cells #[.int .u64 t6, .int .u64 t0, .int .i64 2, .int .i64 0, .int .u64 0, .int .u32 0, .int .u64 0, .int .u32 0, .int .u32 0, .int .u32 0, .int .i64 0, .int .i64 0, .int .i64 0, .int .i64 0, .int .u64 0] 32)).setRow w.heap.size fr0.cs = W5 at HW5 ⊢; have q0 := HW5.out.flt.cell 0; have q1 := HW5.out.flt.cell 1; have p0 := HW5.out.flt.free 0; have p1 := HW5.out.flt.free 1; simp only [List.getElem?_toArray, List.getElem?_cons_zero, List.getElem?_cons_succ] at q0 q1)
    have HE := Lib.hid (HW5.out.set 4 (n : Int))
    exact bodyPost_ret (v := .tuple #[.agg fr0.cs, .agg #[.int .i64 4, .int .i64 n]]) (rread_results _ rfl rfl HE.out) rfl ⟨by rw [HF.out], HE.out.lo⟩
  by_cases hgt : 42 < bs.length
  · have HF : Hid (fread bs = (fr0, 5, 42)) := Lib.hid (by unfold fread; rw [hsz, if_neg (by decide), if_neg (show ¬ (bs.length : Int) < 42 by omega), if_pos (show (42 : Int) < (bs.length : Int) by omega)])
    rw [hn] at hl hlt hgt h34 ⊢
    have e1 : ¬ ((n : Int) < 14) := by omega
    have e2 : ¬ ((n : Int) < 42) := by omega
    have e4 : (42 : Int) < (n : Int) := by omega
    have e3 : (34 : Int) ≤ (n : Int) := by omega
    clear hn ht0 ht6 hs hby hsz hk hp hn22 hn23 hy22 hy23
    obtain ⟨W2, hW2⟩ : ∃ W2, ((w.alloc (.cells #[.int .u64 0, .int .u64 0, .int .i64 0, .int .i64 0, .int .u64 0, .int .u32 0, .int .u64 0, .int .u32 0, .int .u32 0, .int .u32 0, .int .i64 0, .int .i64 0, .int .i64 0, .int .i64 0, .int .u64 0] 32)).alloc (.cells #[.int .i64 0, .int .i64 0] 37)) = W2 := ⟨_, rfl⟩
    have HW : Hid (RW w fr0 0 0 W2) := Lib.hid (hW2 ▸ RW.start w)
    have HB2 : Hid (Below w.heap.size w W2) := Lib.hid HW.out.lo
    have HB3 : Hid (∀ ob, Below w.heap.size w (W2.alloc ob)) := Lib.hid (fun ob => HB2.out.alloc HB2.out.size ob)
    go_enter Try.func40, Try.ntmps40
    go_upto_region 1 with fail
    try rw [hW2]
    clear hW2
    have HW3 : Hid (RW w fr0 0 0 (W2.alloc (.cells #[.int .u64 t6, .int .u64 t0, .int .i64 2, .int .i64 0, .int .u64 0, .int .u32 0, .int .u64 0, .int .u32 0, .int .u32 0, .int .u32 0, .int .i64 0, .int .i64 0, .int .i64 0, .int .i64 0, .int .u64 0] 32))) := Lib.hid (HW.out.below ((Below.refl _ W2).alloc (Nat.le_refl _) _))
    have h23c := ((HB3.out (.cells #[.int .u64 t6, .int .u64 t0, .int .i64 2, .int .i64 0, .int .u64 0, .int .u32 0, .int .u64 0, .int .u32 0, .int .u32 0, .int .u32 0, .int .i64 0, .int .i64 0, .int .i64 0, .int .i64 0, .int .u64 0] 32)).cell (p := ⟨b, o + 23, none⟩) hblt').trans HC.out.2
    go_wp2_with fail
    refine (HT0.out _ (HB2.out)).mono ?_
    rintro e wt0 ⟨rfl, rfl⟩
    go_wp2_with fail
    refine (HT6.out _ (HB2.out)).mono ?_
    rintro e wt6 ⟨rfl, rfl⟩
    go_wp2_with fail
    refine (HT12.out _ (HB3.out _)).mono ?_
    rintro e wt12 ⟨rfl, rfl⟩
    go_wp2_with fail
    refine (HPd.out _).mono ?_
    rintro e w9 ⟨rfl, rfl⟩
    go_wp2_with (refine wpList_store_row rfl 32 (.tmp 2) (.tmp 54) rfl w.heap.size fr0.cs rfl rfl 32 fr0.cs HW3.out.zer (FR.fit fr0) rfl (FR.one fr0) ?_; have HW5 := Lib.hid (HW3.out.row fr0); generalize (W2.alloc (.cells #[.int .u64 t6, .int .u64 t0, .int .i64 2, .int .i64 0, .int .u64 0, .int .u32 0, .int .u64 0, .int .u32 0, .int .u32 0, .int .u32 0, .int .i64 0, .int .i64 0, .int .i64 0, .int .i64 0, .int .u64 0] 32)).setRow w.heap.size fr0.cs = W5 at HW5 ⊢; have q0 := HW5.out.flt.cell 0; have q1 := HW5.out.flt.cell 1; have p0 := HW5.out.flt.free 0; have p1 := HW5.out.flt.free 1; simp only [List.getElem?_toArray, List.getElem?_cons_zero, List.getElem?_cons_succ] at q0 q1)
    have HE := Lib.hid (HW5.out.set 5 42)
    exact bodyPost_ret (v := .tuple #[.agg fr0.cs, .agg #[.int .i64 5, .int .i64 42]]) (rread_results _ rfl rfl HE.out) rfl ⟨by rw [HF.out], HE.out.lo⟩
  have hE : bs.length = 42 := by omega
  obtain ⟨t26, ht26⟩ : ∃ t, nm bs 26 4 = t := ⟨_, rfl⟩
  have HT26 : Hid (∀ W, Below w.heap.size w W → Calls Try.prog 39 #[.slice (some ⟨b, o, none⟩) n c, .int .i64 26, .int .i64 4] W fun e w' => e = .returned (.int .u64 t26) ∧ W = w') := Lib.hid (fun W hb => by
    have h := rtake_any b o c n bs hn 26 4 (by decide) (by decide) (by omega) (by omega) hby W (HSl.out W hb)
    rw [ht26] at h
    exact h)
  have hw26 : IntKind.u32.wrap t26 = t26 := ht26 ▸ in4 (nm_bd hby 26 4)
  have hv26 := ht26 ▸ nm_bd hby 26 4
  have hx26 : t26 % 4294967296 = t26 := by omega
  obtain ⟨t30, ht30⟩ : ∃ t, nm bs 30 4 = t := ⟨_, rfl⟩
  have HT30 : Hid (∀ W, Below w.heap.size w W → Calls Try.prog 39 #[.slice (some ⟨b, o, none⟩) n c, .int .i64 30, .int .i64 4] W fun e w' => e = .returned (.int .u64 t30) ∧ W = w') := Lib.hid (fun W hb => by
    have h := rtake_any b o c n bs hn 30 4 (by decide) (by decide) (by omega) (by omega) hby W (HSl.out W hb)
    rw [ht30] at h
    exact h)
  have hw30 : IntKind.u32.wrap t30 = t30 := ht30 ▸ in4 (nm_bd hby 30 4)
  have hv30 := ht30 ▸ nm_bd hby 30 4
  have hx30 : t30 % 4294967296 = t30 := by omega
  obtain ⟨t34, ht34⟩ : ∃ t, nm bs 34 8 = t := ⟨_, rfl⟩
  have HT34 : Hid (∀ W, Below w.heap.size w W → Calls Try.prog 39 #[.slice (some ⟨b, o, none⟩) n c, .int .i64 34, .int .i64 8] W fun e w' => e = .returned (.int .u64 t34) ∧ W = w') := Lib.hid (fun W hb => by
    have h := rtake_any b o c n bs hn 34 8 (by decide) (by decide) (by omega) (by omega) hby W (HSl.out W hb)
    rw [ht34] at h
    exact h)
  have hty := dcP_ty hby
  obtain ⟨x, hx⟩ : ∃ x, dcP bs = x := ⟨_, rfl⟩
  have hcs : x.cs = #[.int .u64 t6, .int .u64 t0, .int .i64 2, .int .i64 0, .int .u64 0, .int .u32 0, .int .u64 0, .int .u32 0, .int .u32 t26, .int .u32 t30, .int .i64 y22, .int .i64 y23, .int .i64 0, .int .i64 0, .int .u64 t34] := by
    rw [← hx]
    unfold dcP
    rw [if_neg (by omega), if_pos hk, if_neg (by rw [hp]; decide)]
    simp only [dHfF, FR.cs, ht0, ht6, ht26, ht30, ht34, hn22, hn23]
  rw [hx] at hty
  have hfit := x.fit
  have hone := x.one
  have HBy := Lib.hid hby
  have HAr : Hid (∀ W, Below w.heap.size w W → Arr W (.slice (some ⟨b, o, none⟩) n c) bs) := Lib.hid (fun W hb => .inr ⟨_, c, by rw [hn], Sl.at_ (HSl.out W hb)⟩)
  have hfr : ∀ r, (if fchk x = 0 ∧ fenc x = bs then (x, (0 : Int), (0 : Int)) else (fr0, 3, 0)) = r → fread bs = r := fun r h => by
    unfold fread
    rw [hsz, if_neg (by decide), if_neg (show ¬ (bs.length : Int) < 42 by omega), if_neg (show ¬ (42 : Int) < (bs.length : Int) by omega), hx]
    exact h
  have HFr := Lib.hid hfr
  have HCs := Lib.hid hcs
  have HNe := Lib.hid hn
  rw [hn] at hl hlt hgt hE h34 ⊢
  have e1 : ¬ ((n : Int) < 14) := by omega
  have e2 : ¬ ((n : Int) < 42) := by omega
  have e4 : ¬ ((42 : Int) < (n : Int)) := by omega
  have e3 : (34 : Int) ≤ (n : Int) := by omega
  have e5 : (22 : Int) < (n : Int) := by omega
  have e6 : (23 : Int) < (n : Int) := by omega
  clear hE hn hs hby hsz hk hx hfr hcs hfit hone ht0 ht6 ht26 ht30 ht34 hp hn22 hn23 hy22 hy23
  by_cases hc : fchk x = 0
  case neg =>
    have HF : Hid (fread bs = (fr0, 3, 0)) := Lib.hid (HFr.out _ (if_neg (fun h => hc h.1)))
    obtain ⟨ec, hec⟩ : ∃ ec, fchk x = ec := ⟨_, rfl⟩
    have HY : Hid (∀ W : World, Calls Try.prog 33 #[.agg #[.int .u64 t6, .int .u64 t0, .int .i64 2, .int .i64 0, .int .u64 0, .int .u32 0, .int .u64 0, .int .u32 0, .int .u32 t26, .int .u32 t30, .int .i64 y22, .int .i64 y23, .int .i64 0, .int .i64 0, .int .u64 t34]] W fun e w' => e = .returned (.tuple #[.slice none 0 0, .int .i64 ec]) ∧ Below W.heap.size W w') := Lib.hid (fun W => by
      have h := rbytes_no x hty hc W
      rw [HCs.out, hec] at h
      exact h)
    rw [hec] at hc
    have hne : (ec != 0) = true := by simpa using hc
    clear hec hc hty
    obtain ⟨W2, hW2⟩ : ∃ W2, ((w.alloc (.cells #[.int .u64 0, .int .u64 0, .int .i64 0, .int .i64 0, .int .u64 0, .int .u32 0, .int .u64 0, .int .u32 0, .int .u32 0, .int .u32 0, .int .i64 0, .int .i64 0, .int .i64 0, .int .i64 0, .int .u64 0] 32)).alloc (.cells #[.int .i64 0, .int .i64 0] 37)) = W2 := ⟨_, rfl⟩
    have HW : Hid (RW w fr0 0 0 W2) := Lib.hid (hW2 ▸ RW.start w)
    have HB2 : Hid (Below w.heap.size w W2) := Lib.hid HW.out.lo
    have HB3 : Hid (∀ ob, Below w.heap.size w (W2.alloc ob)) := Lib.hid (fun ob => HB2.out.alloc HB2.out.size ob)
    go_enter Try.func40, Try.ntmps40
    go_upto_region 1 with fail
    try rw [hW2]
    clear hW2
    have h23c := ((HB3.out (.cells #[.int .u64 t6, .int .u64 t0, .int .i64 2, .int .i64 0, .int .u64 0, .int .u32 0, .int .u64 0, .int .u32 0, .int .u32 0, .int .u32 0, .int .i64 0, .int .i64 0, .int .i64 0, .int .i64 0, .int .u64 0] 32)).cell (p := ⟨b, o + 23, none⟩) hblt').trans HC.out.2
    go_wp2_with fail
    refine (HT0.out _ (HB2.out)).mono ?_
    rintro e wt0 ⟨rfl, rfl⟩
    go_wp2_with fail
    refine (HT6.out _ (HB2.out)).mono ?_
    rintro e wt6 ⟨rfl, rfl⟩
    go_wp2_with fail
    refine (HT12.out _ (HB3.out _)).mono ?_
    rintro e wt12 ⟨rfl, rfl⟩
    go_wp2_with fail
    refine (HPd.out _).mono ?_
    rintro e w9 ⟨rfl, rfl⟩
    go_upto_region 22 with fail
    have HS22 : Hid (∀ W, Below w.heap.size w W → (W.cell? ⟨b, o + 22, none⟩ = some (.int .u8 y22) ∧ W.cell? ⟨b, o + 23, none⟩ = some (.int .u8 y23) ∧ True)) := Lib.hid (fun W hb => ⟨(hb.cell (p := ⟨b, o + 22, none⟩) hblt').trans HC.out.1, (hb.cell (p := ⟨b, o + 23, none⟩) hblt').trans HC.out.2, trivial⟩)
    refine wp_region_held_drew (S := (fun w' => w'.cell? ⟨b, o + 22, none⟩ = some (.int .u8 y22) ∧ w'.cell? ⟨b, o + 23, none⟩ = some (.int .u8 y23) ∧ True)) (by kernel_rfl) (HS22.out _ (HB3.out _).drew) (fun hHeld => ?_)
    refine wpAnyH_take (i := 0) (oi := { dst := some 78, op := Go.Op.move (Go.Operand.tmp 0), type := 40, pos := "ref.go:133", after := #[], guard := none }) (v := ?_) rfl (by kernel_rfl) (by kernel_rfl) (by kernel_rfl) (fun _ _ _ h => h) (Or.inl ⟨by rfl, ?_⟩) (by assumption) ?_
    rotate_left
    · intro wS hSw
      try dsimp only at hSw
      go_split_ands
      go_simp
      try with_reducible rfl
    try simp only [Act.put, List.setIfInBounds_toArray, List.set_cons_zero, List.set_cons_succ]
    refine wpAnyH_take (i := 3) (oi := { dst := some 81, op := Go.Op.move (Go.Operand.tmp 0), type := 40, pos := "ref.go:133", after := #[], guard := none }) (v := ?_) rfl (by kernel_rfl) (by kernel_rfl) (by kernel_rfl) (fun _ _ _ h => h) (Or.inl ⟨by rfl, ?_⟩) (by assumption) ?_
    rotate_left
    · intro wS hSw
      try dsimp only at hSw
      go_split_ands
      go_simp
      try with_reducible rfl
    try simp only [Act.put, List.setIfInBounds_toArray, List.set_cons_zero, List.set_cons_succ]
    refine wpAnyH_take (i := 6) (oi := { dst := some 84, op := Go.Op.move (Go.Operand.tmp 0), type := 40, pos := "ref.go:133", after := #[], guard := none }) (v := ?_) rfl (by kernel_rfl) (by kernel_rfl) (by kernel_rfl) (fun _ _ _ h => h) (Or.inl ⟨by rfl, ?_⟩) (by assumption) ?_
    rotate_left
    · intro wS hSw
      try dsimp only at hSw
      go_split_ands
      go_simp
      try with_reducible rfl
    try simp only [Act.put, List.setIfInBounds_toArray, List.set_cons_zero, List.set_cons_succ]
    refine wpAnyH_take (i := 7) (oi := { dst := some 85, op := Go.Op.indexAddr 40 (Go.Operand.tmp 84) (Go.Operand.const (Go.Value.int Go.IntKind.i64 22)), type := 0, pos := "ref.go:133", after := #[{ on := 6, ground := Go.Ground.data }], guard := none }) (v := ?_) rfl (by kernel_rfl) (by kernel_rfl) (by kernel_rfl) (fun _ _ _ h => h) (Or.inl ⟨by rfl, ?_⟩) (by assumption) ?_
    rotate_left
    · intro wS hSw
      try dsimp only at hSw
      go_split_ands
      go_simp
      try with_reducible rfl
    try simp only [Act.put, List.setIfInBounds_toArray, List.set_cons_zero, List.set_cons_succ]
    refine wpAnyH_take (i := 8) (oi := { dst := some 86, op := Go.Op.load 5 (Go.Operand.tmp 85), type := 5, pos := "ref.go:133", after := #[{ on := 7, ground := Go.Ground.data }], guard := none }) (v := ?_) rfl (by kernel_rfl) (by kernel_rfl) (by kernel_rfl) (fun _ _ _ h => h) (Or.inl ⟨by rfl, ?_⟩) (by assumption) ?_
    rotate_left
    · intro wS hSw
      try dsimp only at hSw
      go_split_ands
      go_simp
      try with_reducible rfl
    try simp only [Act.put, List.setIfInBounds_toArray, List.set_cons_zero, List.set_cons_succ]
    refine wpAnyH_take (i := 9) (oi := { dst := some 87, op := Go.Op.convert 5 3 (Go.Operand.tmp 86), type := 3, pos := "ref.go:133", after := #[{ on := 8, ground := Go.Ground.data }], guard := none }) (v := ?_) rfl (by kernel_rfl) (by kernel_rfl) (by kernel_rfl) (fun _ _ _ h => h) (Or.inl ⟨by rfl, ?_⟩) (by assumption) ?_
    rotate_left
    · intro wS hSw
      try dsimp only at hSw
      go_split_ands
      go_simp
      try with_reducible rfl
    try simp only [Act.put, List.setIfInBounds_toArray, List.set_cons_zero, List.set_cons_succ]
    refine wpAnyH_take (i := 10) (oi := { dst := some 88, op := Go.Op.move (Go.Operand.tmp 0), type := 40, pos := "ref.go:133", after := #[], guard := none }) (v := ?_) rfl (by kernel_rfl) (by kernel_rfl) (by kernel_rfl) (fun _ _ _ h => h) (Or.inl ⟨by rfl, ?_⟩) (by assumption) ?_
    rotate_left
    · intro wS hSw
      try dsimp only at hSw
      go_split_ands
      go_simp
      try with_reducible rfl
    try simp only [Act.put, List.setIfInBounds_toArray, List.set_cons_zero, List.set_cons_succ]
    refine wpAnyH_take (i := 11) (oi := { dst := some 89, op := Go.Op.indexAddr 40 (Go.Operand.tmp 88) (Go.Operand.const (Go.Value.int Go.IntKind.i64 23)), type := 0, pos := "ref.go:133", after := #[{ on := 10, ground := Go.Ground.data }], guard := none }) (v := ?_) rfl (by kernel_rfl) (by kernel_rfl) (by kernel_rfl) (fun _ _ _ h => h) (Or.inl ⟨by rfl, ?_⟩) (by assumption) ?_
    rotate_left
    · intro wS hSw
      try dsimp only at hSw
      go_split_ands
      go_simp
      try with_reducible rfl
    try simp only [Act.put, List.setIfInBounds_toArray, List.set_cons_zero, List.set_cons_succ]
    refine wpAnyH_take (i := 12) (oi := { dst := some 90, op := Go.Op.load 5 (Go.Operand.tmp 89), type := 5, pos := "ref.go:133", after := #[{ on := 11, ground := Go.Ground.data }], guard := none }) (v := ?_) rfl (by kernel_rfl) (by kernel_rfl) (by kernel_rfl) (fun _ _ _ h => h) (Or.inl ⟨by rfl, ?_⟩) (by assumption) ?_
    rotate_left
    · intro wS hSw
      try dsimp only at hSw
      go_split_ands
      go_simp
      try with_reducible rfl
    try simp only [Act.put, List.setIfInBounds_toArray, List.set_cons_zero, List.set_cons_succ]
    refine wpAnyH_take (i := 13) (oi := { dst := some 91, op := Go.Op.convert 5 3 (Go.Operand.tmp 90), type := 3, pos := "ref.go:133", after := #[{ on := 12, ground := Go.Ground.data }], guard := none }) (v := ?_) rfl (by kernel_rfl) (by kernel_rfl) (by kernel_rfl) (fun _ _ _ h => h) (Or.inl ⟨by rfl, ?_⟩) (by assumption) ?_
    rotate_left
    · intro wS hSw
      try dsimp only at hSw
      go_split_ands
      go_simp
      try with_reducible rfl
    try simp only [Act.put, List.setIfInBounds_toArray, List.set_cons_zero, List.set_cons_succ]
    refine wpAnyH_ready (rs := [1]) (by kernel_rfl) (by simp) ?_
    refine AllReadyH.cons (o := { dst := some 79, op := Go.Op.call { callee := Go.Callee.value (Go.Operand.func 39), args := #[Go.Operand.tmp 78, Go.Operand.const (Go.Value.int Go.IntKind.i64 26), Go.Operand.const (Go.Value.int Go.IntKind.i64 4)], argTypes := #[40, 3, 3] }, type := 25, pos := "ref.go:133", after := #[{ on := 0, ground := Go.Ground.data }], guard := none }) rfl (fun K hK => ?_) AllReadyH.nil
    go_simp
    go_at_call 39
    refine (HT26.out _ (HB3.out _).drew).mono ?_
    rintro e wt26 ⟨rfl, rfl⟩
    refine hK.out _ _ (HS22.out _ (HB3.out _).drew) (fun hHeld => ?_)
    clear hK K
    try simp only [Act.put, List.setIfInBounds_toArray, List.set_cons_zero, List.set_cons_succ]
    refine wpAnyH_take (i := 2) (oi := { dst := some 80, op := Go.Op.convert 25 24 (Go.Operand.tmp 79), type := 24, pos := "ref.go:133", after := #[{ on := 1, ground := Go.Ground.data }], guard := none }) (v := ?_) rfl (by kernel_rfl) (by kernel_rfl) (by kernel_rfl) (fun _ _ _ h => h) (Or.inl ⟨by rfl, ?_⟩) (by assumption) ?_
    rotate_left
    · intro wS hSw
      try dsimp only at hSw
      go_split_ands
      go_simp
      try with_reducible rfl
    try simp only [Act.put, List.setIfInBounds_toArray, List.set_cons_zero, List.set_cons_succ]
    refine wpAnyH_ready (rs := [4]) (by kernel_rfl) (by simp) ?_
    refine AllReadyH.cons (o := { dst := some 82, op := Go.Op.call { callee := Go.Callee.value (Go.Operand.func 39), args := #[Go.Operand.tmp 81, Go.Operand.const (Go.Value.int Go.IntKind.i64 30), Go.Operand.const (Go.Value.int Go.IntKind.i64 4)], argTypes := #[40, 3, 3] }, type := 25, pos := "ref.go:133", after := #[{ on := 3, ground := Go.Ground.data }, { on := 1, ground := Go.Ground.chain }], guard := none }) rfl (fun K hK => ?_) AllReadyH.nil
    go_simp
    go_at_call 39
    refine (HT30.out _ (HB3.out _).drew).mono ?_
    rintro e wt30 ⟨rfl, rfl⟩
    refine hK.out _ _ (HS22.out _ (HB3.out _).drew) (fun hHeld => ?_)
    clear hK K
    try simp only [Act.put, List.setIfInBounds_toArray, List.set_cons_zero, List.set_cons_succ]
    refine wpAnyH_take (i := 5) (oi := { dst := some 83, op := Go.Op.convert 25 24 (Go.Operand.tmp 82), type := 24, pos := "ref.go:133", after := #[{ on := 4, ground := Go.Ground.data }], guard := none }) (v := ?_) rfl (by kernel_rfl) (by kernel_rfl) (by kernel_rfl) (fun _ _ _ h => h) (Or.inl ⟨by rfl, ?_⟩) (by assumption) ?_
    rotate_left
    · intro wS hSw
      try dsimp only at hSw
      go_split_ands
      go_simp
      try with_reducible rfl
    try simp only [Act.put, List.setIfInBounds_toArray, List.set_cons_zero, List.set_cons_succ]
    refine wpAnyH_take (i := 14) (oi := { dst := some 92, op := Go.Op.build 30 #[(0, Go.Operand.tmp 80), (1, Go.Operand.tmp 83), (2, Go.Operand.tmp 87), (3, Go.Operand.tmp 91)], type := 30, pos := "ref.go:133", after := #[{ on := 2, ground := Go.Ground.data }, { on := 5, ground := Go.Ground.data }, { on := 9, ground := Go.Ground.data }, { on := 13, ground := Go.Ground.data }], guard := none }) (v := ?_) rfl (by kernel_rfl) (by kernel_rfl) (by kernel_rfl) (fun _ _ _ h => h) (Or.inl ⟨by rfl, ?_⟩) (by assumption) ?_
    rotate_left
    · intro wS hSw
      try dsimp only at hSw
      go_split_ands
      go_simp
      try with_reducible rfl
    try simp only [Act.put, List.setIfInBounds_toArray, List.set_cons_zero, List.set_cons_succ]
    refine wpAnyH_take (i := 15) (oi := { dst := some 93, op := Go.Op.fieldAddr 32 (Go.Operand.tmp 4) 4, type := 0, pos := "ref.go:133", after := #[{ on := 0, ground := Go.Ground.phase }, { on := 1, ground := Go.Ground.phase }, { on := 2, ground := Go.Ground.phase }, { on := 3, ground := Go.Ground.phase }, { on := 4, ground := Go.Ground.phase }, { on := 5, ground := Go.Ground.phase }, { on := 6, ground := Go.Ground.phase }, { on := 7, ground := Go.Ground.phase }, { on := 8, ground := Go.Ground.phase }, { on := 9, ground := Go.Ground.phase }, { on := 10, ground := Go.Ground.phase }, { on := 11, ground := Go.Ground.phase }, { on := 12, ground := Go.Ground.phase }, { on := 13, ground := Go.Ground.phase }, { on := 14, ground := Go.Ground.phase }], guard := none }) (v := ?_) rfl (by kernel_rfl) (by kernel_rfl) (by kernel_rfl) (fun _ _ _ h => h) (Or.inl ⟨by rfl, ?_⟩) (by assumption) ?_
    rotate_left
    · intro wS hSw
      try dsimp only at hSw
      go_split_ands
      go_simp
      try with_reducible rfl
    try simp only [Act.put, List.setIfInBounds_toArray, List.set_cons_zero, List.set_cons_succ]
    refine wpAnyH_ready (rs := [16]) (by kernel_rfl) (by simp) ?_
    refine AllReadyH.cons (o := { dst := none, op := Go.Op.store 30 (Go.Operand.tmp 93) (Go.Operand.tmp 92), type := 0, pos := "ref.go:133", after := #[{ on := 15, ground := Go.Ground.data }, { on := 14, ground := Go.Ground.data }, { on := 4, ground := Go.Ground.chain }, { on := 0, ground := Go.Ground.phase }, { on := 1, ground := Go.Ground.phase }, { on := 2, ground := Go.Ground.phase }, { on := 3, ground := Go.Ground.phase }, { on := 4, ground := Go.Ground.phase }, { on := 5, ground := Go.Ground.phase }, { on := 6, ground := Go.Ground.phase }, { on := 7, ground := Go.Ground.phase }, { on := 8, ground := Go.Ground.phase }, { on := 9, ground := Go.Ground.phase }, { on := 10, ground := Go.Ground.phase }, { on := 11, ground := Go.Ground.phase }, { on := 12, ground := Go.Ground.phase }, { on := 13, ground := Go.Ground.phase }, { on := 14, ground := Go.Ground.phase }], guard := none }) rfl (fun K hK => ?_) AllReadyH.nil
    go_simp
    refine hK.out _ _ (HS22.out _ (by first | exact (HB3.out _).drew | exact HB3.out _)) (fun hHeld => ?_)
    clear hK K
    try simp only [Act.put, List.setIfInBounds_toArray, List.set_cons_zero, List.set_cons_succ]
    refine wpAnyH_done (by kernel_rfl) ?_ _
    go_wp2_with fail
    refine (HT34.out _ (by first | exact (HB3.out _).drew | exact HB3.out _)).mono ?_
    rintro e wt34 ⟨rfl, rfl⟩
    go_wp2_with fail
    have HWX : Hid (RW w fr0 0 0 (W2.alloc (.cells #[.int .u64 t6, .int .u64 t0, .int .i64 2, .int .i64 0, .int .u64 0, .int .u32 0, .int .u64 0, .int .u32 0, .int .u32 t26, .int .u32 t30, .int .i64 y22, .int .i64 y23, .int .i64 0, .int .i64 0, .int .u64 t34] 32)).drew) := Lib.hid (HW.out.below ((Below.refl _ W2).alloc (Nat.le_refl _) _).drew)
    have HBX : Hid (Has (W2.alloc (.cells #[.int .u64 t6, .int .u64 t0, .int .i64 2, .int .i64 0, .int .u64 0, .int .u32 0, .int .u64 0, .int .u32 0, .int .u32 t26, .int .u32 t30, .int .i64 y22, .int .i64 y23, .int .i64 0, .int .i64 0, .int .u64 t34] 32)).drew W2.heap.size 32 x.cs) := Lib.hid (HCs.out ▸ Has.new W2 _ _)
    refine (HY.out _).mono ?_
    rintro e w7 ⟨rfl, hb⟩
    have HW7 := Lib.hid (HWX.out.below hb)
    have HB7 := Lib.hid (HBX.out.below hb)
    clear hb HWX HBX
    go_wp2_with (first | (refine wpList_store_row rfl 32 (.tmp 2) (.tmp 125) rfl w.heap.size fr0.cs rfl rfl 32 fr0.cs HW7.out.zer (FR.fit fr0) rfl (FR.one fr0) ?_; have HW5 := Lib.hid (HW7.out.row fr0); generalize w7.setRow w.heap.size fr0.cs = W5 at HW5 ⊢; have q0 := HW5.out.flt.cell 0; have q1 := HW5.out.flt.cell 1; have p0 := HW5.out.flt.free 0; have p1 := HW5.out.flt.free 1; simp only [List.getElem?_toArray, List.getElem?_cons_zero, List.getElem?_cons_succ] at q0 q1))
    have HE := Lib.hid (HW5.out.set 3 0)
    exact bodyPost_ret (v := .tuple #[.agg fr0.cs, .agg #[.int .i64 3, .int .i64 0]]) (rread_results _ rfl rfl HE.out) rfl ⟨by rw [HF.out], HE.out.lo⟩
  by_cases hq : fenc x = bs
  case neg =>
    have HF : Hid (fread bs = (fr0, 3, 0)) := Lib.hid (HFr.out _ (if_neg (fun h => hq h.2)))
    obtain ⟨m, hm9⟩ : ∃ m, (fenc x).length = m := ⟨_, rfl⟩
    have HY : Hid (∀ W : World, Calls Try.prog 33 #[.agg #[.int .u64 t6, .int .u64 t0, .int .i64 2, .int .i64 0, .int .u64 0, .int .u32 0, .int .u64 0, .int .u32 0, .int .u32 t26, .int .u32 t30, .int .i64 y22, .int .i64 y23, .int .i64 0, .int .i64 0, .int .u64 t34]] W fun e w' => ∃ b c, e = .returned (.tuple #[.slice (some ⟨b, 0, none⟩) m c, .int .i64 0]) ∧ Row w' b c (fenc x) ∧ W.heap.size ≤ b ∧ Below W.heap.size W w') := Lib.hid (fun W => by
      have h := rbytes_yes x hty hc W
      unfold Enc at h
      rw [HCs.out, hm9] at h
      exact h)
    have HM := Lib.hid hm9
    have HQ := Lib.hid hq
    clear hm9 hq hc hty
    obtain ⟨W2, hW2⟩ : ∃ W2, ((w.alloc (.cells #[.int .u64 0, .int .u64 0, .int .i64 0, .int .i64 0, .int .u64 0, .int .u32 0, .int .u64 0, .int .u32 0, .int .u32 0, .int .u32 0, .int .i64 0, .int .i64 0, .int .i64 0, .int .i64 0, .int .u64 0] 32)).alloc (.cells #[.int .i64 0, .int .i64 0] 37)) = W2 := ⟨_, rfl⟩
    have HW : Hid (RW w fr0 0 0 W2) := Lib.hid (hW2 ▸ RW.start w)
    have HB2 : Hid (Below w.heap.size w W2) := Lib.hid HW.out.lo
    have HB3 : Hid (∀ ob, Below w.heap.size w (W2.alloc ob)) := Lib.hid (fun ob => HB2.out.alloc HB2.out.size ob)
    go_enter Try.func40, Try.ntmps40
    go_upto_region 1 with fail
    try rw [hW2]
    clear hW2
    have h23c := ((HB3.out (.cells #[.int .u64 t6, .int .u64 t0, .int .i64 2, .int .i64 0, .int .u64 0, .int .u32 0, .int .u64 0, .int .u32 0, .int .u32 0, .int .u32 0, .int .i64 0, .int .i64 0, .int .i64 0, .int .i64 0, .int .u64 0] 32)).cell (p := ⟨b, o + 23, none⟩) hblt').trans HC.out.2
    go_wp2_with fail
    refine (HT0.out _ (HB2.out)).mono ?_
    rintro e wt0 ⟨rfl, rfl⟩
    go_wp2_with fail
    refine (HT6.out _ (HB2.out)).mono ?_
    rintro e wt6 ⟨rfl, rfl⟩
    go_wp2_with fail
    refine (HT12.out _ (HB3.out _)).mono ?_
    rintro e wt12 ⟨rfl, rfl⟩
    go_wp2_with fail
    refine (HPd.out _).mono ?_
    rintro e w9 ⟨rfl, rfl⟩
    go_upto_region 22 with fail
    have HS22 : Hid (∀ W, Below w.heap.size w W → (W.cell? ⟨b, o + 22, none⟩ = some (.int .u8 y22) ∧ W.cell? ⟨b, o + 23, none⟩ = some (.int .u8 y23) ∧ True)) := Lib.hid (fun W hb => ⟨(hb.cell (p := ⟨b, o + 22, none⟩) hblt').trans HC.out.1, (hb.cell (p := ⟨b, o + 23, none⟩) hblt').trans HC.out.2, trivial⟩)
    refine wp_region_held_drew (S := (fun w' => w'.cell? ⟨b, o + 22, none⟩ = some (.int .u8 y22) ∧ w'.cell? ⟨b, o + 23, none⟩ = some (.int .u8 y23) ∧ True)) (by kernel_rfl) (HS22.out _ (HB3.out _).drew) (fun hHeld => ?_)
    refine wpAnyH_take (i := 0) (oi := { dst := some 78, op := Go.Op.move (Go.Operand.tmp 0), type := 40, pos := "ref.go:133", after := #[], guard := none }) (v := ?_) rfl (by kernel_rfl) (by kernel_rfl) (by kernel_rfl) (fun _ _ _ h => h) (Or.inl ⟨by rfl, ?_⟩) (by assumption) ?_
    rotate_left
    · intro wS hSw
      try dsimp only at hSw
      go_split_ands
      go_simp
      try with_reducible rfl
    try simp only [Act.put, List.setIfInBounds_toArray, List.set_cons_zero, List.set_cons_succ]
    refine wpAnyH_take (i := 3) (oi := { dst := some 81, op := Go.Op.move (Go.Operand.tmp 0), type := 40, pos := "ref.go:133", after := #[], guard := none }) (v := ?_) rfl (by kernel_rfl) (by kernel_rfl) (by kernel_rfl) (fun _ _ _ h => h) (Or.inl ⟨by rfl, ?_⟩) (by assumption) ?_
    rotate_left
    · intro wS hSw
      try dsimp only at hSw
      go_split_ands
      go_simp
      try with_reducible rfl
    try simp only [Act.put, List.setIfInBounds_toArray, List.set_cons_zero, List.set_cons_succ]
    refine wpAnyH_take (i := 6) (oi := { dst := some 84, op := Go.Op.move (Go.Operand.tmp 0), type := 40, pos := "ref.go:133", after := #[], guard := none }) (v := ?_) rfl (by kernel_rfl) (by kernel_rfl) (by kernel_rfl) (fun _ _ _ h => h) (Or.inl ⟨by rfl, ?_⟩) (by assumption) ?_
    rotate_left
    · intro wS hSw
      try dsimp only at hSw
      go_split_ands
      go_simp
      try with_reducible rfl
    try simp only [Act.put, List.setIfInBounds_toArray, List.set_cons_zero, List.set_cons_succ]
    refine wpAnyH_take (i := 7) (oi := { dst := some 85, op := Go.Op.indexAddr 40 (Go.Operand.tmp 84) (Go.Operand.const (Go.Value.int Go.IntKind.i64 22)), type := 0, pos := "ref.go:133", after := #[{ on := 6, ground := Go.Ground.data }], guard := none }) (v := ?_) rfl (by kernel_rfl) (by kernel_rfl) (by kernel_rfl) (fun _ _ _ h => h) (Or.inl ⟨by rfl, ?_⟩) (by assumption) ?_
    rotate_left
    · intro wS hSw
      try dsimp only at hSw
      go_split_ands
      go_simp
      try with_reducible rfl
    try simp only [Act.put, List.setIfInBounds_toArray, List.set_cons_zero, List.set_cons_succ]
    refine wpAnyH_take (i := 8) (oi := { dst := some 86, op := Go.Op.load 5 (Go.Operand.tmp 85), type := 5, pos := "ref.go:133", after := #[{ on := 7, ground := Go.Ground.data }], guard := none }) (v := ?_) rfl (by kernel_rfl) (by kernel_rfl) (by kernel_rfl) (fun _ _ _ h => h) (Or.inl ⟨by rfl, ?_⟩) (by assumption) ?_
    rotate_left
    · intro wS hSw
      try dsimp only at hSw
      go_split_ands
      go_simp
      try with_reducible rfl
    try simp only [Act.put, List.setIfInBounds_toArray, List.set_cons_zero, List.set_cons_succ]
    refine wpAnyH_take (i := 9) (oi := { dst := some 87, op := Go.Op.convert 5 3 (Go.Operand.tmp 86), type := 3, pos := "ref.go:133", after := #[{ on := 8, ground := Go.Ground.data }], guard := none }) (v := ?_) rfl (by kernel_rfl) (by kernel_rfl) (by kernel_rfl) (fun _ _ _ h => h) (Or.inl ⟨by rfl, ?_⟩) (by assumption) ?_
    rotate_left
    · intro wS hSw
      try dsimp only at hSw
      go_split_ands
      go_simp
      try with_reducible rfl
    try simp only [Act.put, List.setIfInBounds_toArray, List.set_cons_zero, List.set_cons_succ]
    refine wpAnyH_take (i := 10) (oi := { dst := some 88, op := Go.Op.move (Go.Operand.tmp 0), type := 40, pos := "ref.go:133", after := #[], guard := none }) (v := ?_) rfl (by kernel_rfl) (by kernel_rfl) (by kernel_rfl) (fun _ _ _ h => h) (Or.inl ⟨by rfl, ?_⟩) (by assumption) ?_
    rotate_left
    · intro wS hSw
      try dsimp only at hSw
      go_split_ands
      go_simp
      try with_reducible rfl
    try simp only [Act.put, List.setIfInBounds_toArray, List.set_cons_zero, List.set_cons_succ]
    refine wpAnyH_take (i := 11) (oi := { dst := some 89, op := Go.Op.indexAddr 40 (Go.Operand.tmp 88) (Go.Operand.const (Go.Value.int Go.IntKind.i64 23)), type := 0, pos := "ref.go:133", after := #[{ on := 10, ground := Go.Ground.data }], guard := none }) (v := ?_) rfl (by kernel_rfl) (by kernel_rfl) (by kernel_rfl) (fun _ _ _ h => h) (Or.inl ⟨by rfl, ?_⟩) (by assumption) ?_
    rotate_left
    · intro wS hSw
      try dsimp only at hSw
      go_split_ands
      go_simp
      try with_reducible rfl
    try simp only [Act.put, List.setIfInBounds_toArray, List.set_cons_zero, List.set_cons_succ]
    refine wpAnyH_take (i := 12) (oi := { dst := some 90, op := Go.Op.load 5 (Go.Operand.tmp 89), type := 5, pos := "ref.go:133", after := #[{ on := 11, ground := Go.Ground.data }], guard := none }) (v := ?_) rfl (by kernel_rfl) (by kernel_rfl) (by kernel_rfl) (fun _ _ _ h => h) (Or.inl ⟨by rfl, ?_⟩) (by assumption) ?_
    rotate_left
    · intro wS hSw
      try dsimp only at hSw
      go_split_ands
      go_simp
      try with_reducible rfl
    try simp only [Act.put, List.setIfInBounds_toArray, List.set_cons_zero, List.set_cons_succ]
    refine wpAnyH_take (i := 13) (oi := { dst := some 91, op := Go.Op.convert 5 3 (Go.Operand.tmp 90), type := 3, pos := "ref.go:133", after := #[{ on := 12, ground := Go.Ground.data }], guard := none }) (v := ?_) rfl (by kernel_rfl) (by kernel_rfl) (by kernel_rfl) (fun _ _ _ h => h) (Or.inl ⟨by rfl, ?_⟩) (by assumption) ?_
    rotate_left
    · intro wS hSw
      try dsimp only at hSw
      go_split_ands
      go_simp
      try with_reducible rfl
    try simp only [Act.put, List.setIfInBounds_toArray, List.set_cons_zero, List.set_cons_succ]
    refine wpAnyH_ready (rs := [1]) (by kernel_rfl) (by simp) ?_
    refine AllReadyH.cons (o := { dst := some 79, op := Go.Op.call { callee := Go.Callee.value (Go.Operand.func 39), args := #[Go.Operand.tmp 78, Go.Operand.const (Go.Value.int Go.IntKind.i64 26), Go.Operand.const (Go.Value.int Go.IntKind.i64 4)], argTypes := #[40, 3, 3] }, type := 25, pos := "ref.go:133", after := #[{ on := 0, ground := Go.Ground.data }], guard := none }) rfl (fun K hK => ?_) AllReadyH.nil
    go_simp
    go_at_call 39
    refine (HT26.out _ (HB3.out _).drew).mono ?_
    rintro e wt26 ⟨rfl, rfl⟩
    refine hK.out _ _ (HS22.out _ (HB3.out _).drew) (fun hHeld => ?_)
    clear hK K
    try simp only [Act.put, List.setIfInBounds_toArray, List.set_cons_zero, List.set_cons_succ]
    refine wpAnyH_take (i := 2) (oi := { dst := some 80, op := Go.Op.convert 25 24 (Go.Operand.tmp 79), type := 24, pos := "ref.go:133", after := #[{ on := 1, ground := Go.Ground.data }], guard := none }) (v := ?_) rfl (by kernel_rfl) (by kernel_rfl) (by kernel_rfl) (fun _ _ _ h => h) (Or.inl ⟨by rfl, ?_⟩) (by assumption) ?_
    rotate_left
    · intro wS hSw
      try dsimp only at hSw
      go_split_ands
      go_simp
      try with_reducible rfl
    try simp only [Act.put, List.setIfInBounds_toArray, List.set_cons_zero, List.set_cons_succ]
    refine wpAnyH_ready (rs := [4]) (by kernel_rfl) (by simp) ?_
    refine AllReadyH.cons (o := { dst := some 82, op := Go.Op.call { callee := Go.Callee.value (Go.Operand.func 39), args := #[Go.Operand.tmp 81, Go.Operand.const (Go.Value.int Go.IntKind.i64 30), Go.Operand.const (Go.Value.int Go.IntKind.i64 4)], argTypes := #[40, 3, 3] }, type := 25, pos := "ref.go:133", after := #[{ on := 3, ground := Go.Ground.data }, { on := 1, ground := Go.Ground.chain }], guard := none }) rfl (fun K hK => ?_) AllReadyH.nil
    go_simp
    go_at_call 39
    refine (HT30.out _ (HB3.out _).drew).mono ?_
    rintro e wt30 ⟨rfl, rfl⟩
    refine hK.out _ _ (HS22.out _ (HB3.out _).drew) (fun hHeld => ?_)
    clear hK K
    try simp only [Act.put, List.setIfInBounds_toArray, List.set_cons_zero, List.set_cons_succ]
    refine wpAnyH_take (i := 5) (oi := { dst := some 83, op := Go.Op.convert 25 24 (Go.Operand.tmp 82), type := 24, pos := "ref.go:133", after := #[{ on := 4, ground := Go.Ground.data }], guard := none }) (v := ?_) rfl (by kernel_rfl) (by kernel_rfl) (by kernel_rfl) (fun _ _ _ h => h) (Or.inl ⟨by rfl, ?_⟩) (by assumption) ?_
    rotate_left
    · intro wS hSw
      try dsimp only at hSw
      go_split_ands
      go_simp
      try with_reducible rfl
    try simp only [Act.put, List.setIfInBounds_toArray, List.set_cons_zero, List.set_cons_succ]
    refine wpAnyH_take (i := 14) (oi := { dst := some 92, op := Go.Op.build 30 #[(0, Go.Operand.tmp 80), (1, Go.Operand.tmp 83), (2, Go.Operand.tmp 87), (3, Go.Operand.tmp 91)], type := 30, pos := "ref.go:133", after := #[{ on := 2, ground := Go.Ground.data }, { on := 5, ground := Go.Ground.data }, { on := 9, ground := Go.Ground.data }, { on := 13, ground := Go.Ground.data }], guard := none }) (v := ?_) rfl (by kernel_rfl) (by kernel_rfl) (by kernel_rfl) (fun _ _ _ h => h) (Or.inl ⟨by rfl, ?_⟩) (by assumption) ?_
    rotate_left
    · intro wS hSw
      try dsimp only at hSw
      go_split_ands
      go_simp
      try with_reducible rfl
    try simp only [Act.put, List.setIfInBounds_toArray, List.set_cons_zero, List.set_cons_succ]
    refine wpAnyH_take (i := 15) (oi := { dst := some 93, op := Go.Op.fieldAddr 32 (Go.Operand.tmp 4) 4, type := 0, pos := "ref.go:133", after := #[{ on := 0, ground := Go.Ground.phase }, { on := 1, ground := Go.Ground.phase }, { on := 2, ground := Go.Ground.phase }, { on := 3, ground := Go.Ground.phase }, { on := 4, ground := Go.Ground.phase }, { on := 5, ground := Go.Ground.phase }, { on := 6, ground := Go.Ground.phase }, { on := 7, ground := Go.Ground.phase }, { on := 8, ground := Go.Ground.phase }, { on := 9, ground := Go.Ground.phase }, { on := 10, ground := Go.Ground.phase }, { on := 11, ground := Go.Ground.phase }, { on := 12, ground := Go.Ground.phase }, { on := 13, ground := Go.Ground.phase }, { on := 14, ground := Go.Ground.phase }], guard := none }) (v := ?_) rfl (by kernel_rfl) (by kernel_rfl) (by kernel_rfl) (fun _ _ _ h => h) (Or.inl ⟨by rfl, ?_⟩) (by assumption) ?_
    rotate_left
    · intro wS hSw
      try dsimp only at hSw
      go_split_ands
      go_simp
      try with_reducible rfl
    try simp only [Act.put, List.setIfInBounds_toArray, List.set_cons_zero, List.set_cons_succ]
    refine wpAnyH_ready (rs := [16]) (by kernel_rfl) (by simp) ?_
    refine AllReadyH.cons (o := { dst := none, op := Go.Op.store 30 (Go.Operand.tmp 93) (Go.Operand.tmp 92), type := 0, pos := "ref.go:133", after := #[{ on := 15, ground := Go.Ground.data }, { on := 14, ground := Go.Ground.data }, { on := 4, ground := Go.Ground.chain }, { on := 0, ground := Go.Ground.phase }, { on := 1, ground := Go.Ground.phase }, { on := 2, ground := Go.Ground.phase }, { on := 3, ground := Go.Ground.phase }, { on := 4, ground := Go.Ground.phase }, { on := 5, ground := Go.Ground.phase }, { on := 6, ground := Go.Ground.phase }, { on := 7, ground := Go.Ground.phase }, { on := 8, ground := Go.Ground.phase }, { on := 9, ground := Go.Ground.phase }, { on := 10, ground := Go.Ground.phase }, { on := 11, ground := Go.Ground.phase }, { on := 12, ground := Go.Ground.phase }, { on := 13, ground := Go.Ground.phase }, { on := 14, ground := Go.Ground.phase }], guard := none }) rfl (fun K hK => ?_) AllReadyH.nil
    go_simp
    refine hK.out _ _ (HS22.out _ (by first | exact (HB3.out _).drew | exact HB3.out _)) (fun hHeld => ?_)
    clear hK K
    try simp only [Act.put, List.setIfInBounds_toArray, List.set_cons_zero, List.set_cons_succ]
    refine wpAnyH_done (by kernel_rfl) ?_ _
    go_wp2_with fail
    refine (HT34.out _ (by first | exact (HB3.out _).drew | exact HB3.out _)).mono ?_
    rintro e wt34 ⟨rfl, rfl⟩
    go_wp2_with fail
    have HWX : Hid (RW w fr0 0 0 (W2.alloc (.cells #[.int .u64 t6, .int .u64 t0, .int .i64 2, .int .i64 0, .int .u64 0, .int .u32 0, .int .u64 0, .int .u32 0, .int .u32 t26, .int .u32 t30, .int .i64 y22, .int .i64 y23, .int .i64 0, .int .i64 0, .int .u64 t34] 32)).drew) := Lib.hid (HW.out.below ((Below.refl _ W2).alloc (Nat.le_refl _) _).drew)
    have HBX : Hid (Has (W2.alloc (.cells #[.int .u64 t6, .int .u64 t0, .int .i64 2, .int .i64 0, .int .u64 0, .int .u32 0, .int .u64 0, .int .u32 0, .int .u32 t26, .int .u32 t30, .int .i64 y22, .int .i64 y23, .int .i64 0, .int .i64 0, .int .u64 t34] 32)).drew W2.heap.size 32 x.cs) := Lib.hid (HCs.out ▸ Has.new W2 _ _)
    refine (HY.out _).mono ?_
    rintro e w7 ⟨b7, c7, rfl, hrow, hsz7, hb⟩
    have hst2 := arr_string (row_arr hrow rfl) (fenc_pos x)
    rw [HM.out] at hst2
    clear hrow hsz7
    have HW7 := Lib.hid (HWX.out.below hb)
    have HB7 := Lib.hid (HBX.out.below hb)
    clear hb HWX HBX
    have hst1 := arr_string (HAr.out _ HW7.out.lo) (by rw [HNe.out]; omega)
    have hns2 : ((strOfNums (fenc x)).toList == (strOfNums bs).toList) = false := by
      rw [ByteArray.toList_eq, ByteArray.toList_eq, strOfNums_data, strOfNums_data]
      exact beq_eq_false_iff_ne.2 (fun e => HQ.out (ofnat_inj _ _ (fenc_byte x) HBy.out e))
    generalize strOfNums bs = S at hst1 hns2
    generalize strOfNums (fenc x) = S2 at hst2 hns2
    go_wp2_with (first | (refine wpList_store_row rfl 32 (.tmp 2) (.tmp 125) rfl w.heap.size fr0.cs rfl rfl 32 fr0.cs HW7.out.zer (FR.fit fr0) rfl (FR.one fr0) ?_; have HW5 := Lib.hid (HW7.out.row fr0); generalize w7.setRow w.heap.size fr0.cs = W5 at HW5 ⊢; have q0 := HW5.out.flt.cell 0; have q1 := HW5.out.flt.cell 1; have p0 := HW5.out.flt.free 0; have p1 := HW5.out.flt.free 1; simp only [List.getElem?_toArray, List.getElem?_cons_zero, List.getElem?_cons_succ] at q0 q1))
    have HE := Lib.hid (HW5.out.set 3 0)
    exact bodyPost_ret (v := .tuple #[.agg fr0.cs, .agg #[.int .i64 3, .int .i64 0]]) (rread_results _ rfl rfl HE.out) rfl ⟨by rw [HF.out], HE.out.lo⟩
  · skip
    have HF : Hid (fread bs = (x, 0, 0)) := Lib.hid (HFr.out _ (if_pos ⟨hc, hq⟩))
    obtain ⟨m, hm9⟩ : ∃ m, (fenc x).length = m := ⟨_, rfl⟩
    have HY : Hid (∀ W : World, Calls Try.prog 33 #[.agg #[.int .u64 t6, .int .u64 t0, .int .i64 2, .int .i64 0, .int .u64 0, .int .u32 0, .int .u64 0, .int .u32 0, .int .u32 t26, .int .u32 t30, .int .i64 y22, .int .i64 y23, .int .i64 0, .int .i64 0, .int .u64 t34]] W fun e w' => ∃ b c, e = .returned (.tuple #[.slice (some ⟨b, 0, none⟩) m c, .int .i64 0]) ∧ Row w' b c (fenc x) ∧ W.heap.size ≤ b ∧ Below W.heap.size W w') := Lib.hid (fun W => by
      have h := rbytes_yes x hty hc W
      unfold Enc at h
      rw [HCs.out, hm9] at h
      exact h)
    have HM := Lib.hid hm9
    have HQ := Lib.hid hq
    clear hm9 hq hc hty
    obtain ⟨W2, hW2⟩ : ∃ W2, ((w.alloc (.cells #[.int .u64 0, .int .u64 0, .int .i64 0, .int .i64 0, .int .u64 0, .int .u32 0, .int .u64 0, .int .u32 0, .int .u32 0, .int .u32 0, .int .i64 0, .int .i64 0, .int .i64 0, .int .i64 0, .int .u64 0] 32)).alloc (.cells #[.int .i64 0, .int .i64 0] 37)) = W2 := ⟨_, rfl⟩
    have HW : Hid (RW w fr0 0 0 W2) := Lib.hid (hW2 ▸ RW.start w)
    have HB2 : Hid (Below w.heap.size w W2) := Lib.hid HW.out.lo
    have HB3 : Hid (∀ ob, Below w.heap.size w (W2.alloc ob)) := Lib.hid (fun ob => HB2.out.alloc HB2.out.size ob)
    go_enter Try.func40, Try.ntmps40
    go_upto_region 1 with fail
    try rw [hW2]
    clear hW2
    have h23c := ((HB3.out (.cells #[.int .u64 t6, .int .u64 t0, .int .i64 2, .int .i64 0, .int .u64 0, .int .u32 0, .int .u64 0, .int .u32 0, .int .u32 0, .int .u32 0, .int .i64 0, .int .i64 0, .int .i64 0, .int .i64 0, .int .u64 0] 32)).cell (p := ⟨b, o + 23, none⟩) hblt').trans HC.out.2
    go_wp2_with fail
    refine (HT0.out _ (HB2.out)).mono ?_
    rintro e wt0 ⟨rfl, rfl⟩
    go_wp2_with fail
    refine (HT6.out _ (HB2.out)).mono ?_
    rintro e wt6 ⟨rfl, rfl⟩
    go_wp2_with fail
    refine (HT12.out _ (HB3.out _)).mono ?_
    rintro e wt12 ⟨rfl, rfl⟩
    go_wp2_with fail
    refine (HPd.out _).mono ?_
    rintro e w9 ⟨rfl, rfl⟩
    go_upto_region 22 with fail
    have HS22 : Hid (∀ W, Below w.heap.size w W → (W.cell? ⟨b, o + 22, none⟩ = some (.int .u8 y22) ∧ W.cell? ⟨b, o + 23, none⟩ = some (.int .u8 y23) ∧ True)) := Lib.hid (fun W hb => ⟨(hb.cell (p := ⟨b, o + 22, none⟩) hblt').trans HC.out.1, (hb.cell (p := ⟨b, o + 23, none⟩) hblt').trans HC.out.2, trivial⟩)
    refine wp_region_held_drew (S := (fun w' => w'.cell? ⟨b, o + 22, none⟩ = some (.int .u8 y22) ∧ w'.cell? ⟨b, o + 23, none⟩ = some (.int .u8 y23) ∧ True)) (by kernel_rfl) (HS22.out _ (HB3.out _).drew) (fun hHeld => ?_)
    refine wpAnyH_take (i := 0) (oi := { dst := some 78, op := Go.Op.move (Go.Operand.tmp 0), type := 40, pos := "ref.go:133", after := #[], guard := none }) (v := ?_) rfl (by kernel_rfl) (by kernel_rfl) (by kernel_rfl) (fun _ _ _ h => h) (Or.inl ⟨by rfl, ?_⟩) (by assumption) ?_
    rotate_left
    · intro wS hSw
      try dsimp only at hSw
      go_split_ands
      go_simp
      try with_reducible rfl
    try simp only [Act.put, List.setIfInBounds_toArray, List.set_cons_zero, List.set_cons_succ]
    refine wpAnyH_take (i := 3) (oi := { dst := some 81, op := Go.Op.move (Go.Operand.tmp 0), type := 40, pos := "ref.go:133", after := #[], guard := none }) (v := ?_) rfl (by kernel_rfl) (by kernel_rfl) (by kernel_rfl) (fun _ _ _ h => h) (Or.inl ⟨by rfl, ?_⟩) (by assumption) ?_
    rotate_left
    · intro wS hSw
      try dsimp only at hSw
      go_split_ands
      go_simp
      try with_reducible rfl
    try simp only [Act.put, List.setIfInBounds_toArray, List.set_cons_zero, List.set_cons_succ]
    refine wpAnyH_take (i := 6) (oi := { dst := some 84, op := Go.Op.move (Go.Operand.tmp 0), type := 40, pos := "ref.go:133", after := #[], guard := none }) (v := ?_) rfl (by kernel_rfl) (by kernel_rfl) (by kernel_rfl) (fun _ _ _ h => h) (Or.inl ⟨by rfl, ?_⟩) (by assumption) ?_
    rotate_left
    · intro wS hSw
      try dsimp only at hSw
      go_split_ands
      go_simp
      try with_reducible rfl
    try simp only [Act.put, List.setIfInBounds_toArray, List.set_cons_zero, List.set_cons_succ]
    refine wpAnyH_take (i := 7) (oi := { dst := some 85, op := Go.Op.indexAddr 40 (Go.Operand.tmp 84) (Go.Operand.const (Go.Value.int Go.IntKind.i64 22)), type := 0, pos := "ref.go:133", after := #[{ on := 6, ground := Go.Ground.data }], guard := none }) (v := ?_) rfl (by kernel_rfl) (by kernel_rfl) (by kernel_rfl) (fun _ _ _ h => h) (Or.inl ⟨by rfl, ?_⟩) (by assumption) ?_
    rotate_left
    · intro wS hSw
      try dsimp only at hSw
      go_split_ands
      go_simp
      try with_reducible rfl
    try simp only [Act.put, List.setIfInBounds_toArray, List.set_cons_zero, List.set_cons_succ]
    refine wpAnyH_take (i := 8) (oi := { dst := some 86, op := Go.Op.load 5 (Go.Operand.tmp 85), type := 5, pos := "ref.go:133", after := #[{ on := 7, ground := Go.Ground.data }], guard := none }) (v := ?_) rfl (by kernel_rfl) (by kernel_rfl) (by kernel_rfl) (fun _ _ _ h => h) (Or.inl ⟨by rfl, ?_⟩) (by assumption) ?_
    rotate_left
    · intro wS hSw
      try dsimp only at hSw
      go_split_ands
      go_simp
      try with_reducible rfl
    try simp only [Act.put, List.setIfInBounds_toArray, List.set_cons_zero, List.set_cons_succ]
    refine wpAnyH_take (i := 9) (oi := { dst := some 87, op := Go.Op.convert 5 3 (Go.Operand.tmp 86), type := 3, pos := "ref.go:133", after := #[{ on := 8, ground := Go.Ground.data }], guard := none }) (v := ?_) rfl (by kernel_rfl) (by kernel_rfl) (by kernel_rfl) (fun _ _ _ h => h) (Or.inl ⟨by rfl, ?_⟩) (by assumption) ?_
    rotate_left
    · intro wS hSw
      try dsimp only at hSw
      go_split_ands
      go_simp
      try with_reducible rfl
    try simp only [Act.put, List.setIfInBounds_toArray, List.set_cons_zero, List.set_cons_succ]
    refine wpAnyH_take (i := 10) (oi := { dst := some 88, op := Go.Op.move (Go.Operand.tmp 0), type := 40, pos := "ref.go:133", after := #[], guard := none }) (v := ?_) rfl (by kernel_rfl) (by kernel_rfl) (by kernel_rfl) (fun _ _ _ h => h) (Or.inl ⟨by rfl, ?_⟩) (by assumption) ?_
    rotate_left
    · intro wS hSw
      try dsimp only at hSw
      go_split_ands
      go_simp
      try with_reducible rfl
    try simp only [Act.put, List.setIfInBounds_toArray, List.set_cons_zero, List.set_cons_succ]
    refine wpAnyH_take (i := 11) (oi := { dst := some 89, op := Go.Op.indexAddr 40 (Go.Operand.tmp 88) (Go.Operand.const (Go.Value.int Go.IntKind.i64 23)), type := 0, pos := "ref.go:133", after := #[{ on := 10, ground := Go.Ground.data }], guard := none }) (v := ?_) rfl (by kernel_rfl) (by kernel_rfl) (by kernel_rfl) (fun _ _ _ h => h) (Or.inl ⟨by rfl, ?_⟩) (by assumption) ?_
    rotate_left
    · intro wS hSw
      try dsimp only at hSw
      go_split_ands
      go_simp
      try with_reducible rfl
    try simp only [Act.put, List.setIfInBounds_toArray, List.set_cons_zero, List.set_cons_succ]
    refine wpAnyH_take (i := 12) (oi := { dst := some 90, op := Go.Op.load 5 (Go.Operand.tmp 89), type := 5, pos := "ref.go:133", after := #[{ on := 11, ground := Go.Ground.data }], guard := none }) (v := ?_) rfl (by kernel_rfl) (by kernel_rfl) (by kernel_rfl) (fun _ _ _ h => h) (Or.inl ⟨by rfl, ?_⟩) (by assumption) ?_
    rotate_left
    · intro wS hSw
      try dsimp only at hSw
      go_split_ands
      go_simp
      try with_reducible rfl
    try simp only [Act.put, List.setIfInBounds_toArray, List.set_cons_zero, List.set_cons_succ]
    refine wpAnyH_take (i := 13) (oi := { dst := some 91, op := Go.Op.convert 5 3 (Go.Operand.tmp 90), type := 3, pos := "ref.go:133", after := #[{ on := 12, ground := Go.Ground.data }], guard := none }) (v := ?_) rfl (by kernel_rfl) (by kernel_rfl) (by kernel_rfl) (fun _ _ _ h => h) (Or.inl ⟨by rfl, ?_⟩) (by assumption) ?_
    rotate_left
    · intro wS hSw
      try dsimp only at hSw
      go_split_ands
      go_simp
      try with_reducible rfl
    try simp only [Act.put, List.setIfInBounds_toArray, List.set_cons_zero, List.set_cons_succ]
    refine wpAnyH_ready (rs := [1]) (by kernel_rfl) (by simp) ?_
    refine AllReadyH.cons (o := { dst := some 79, op := Go.Op.call { callee := Go.Callee.value (Go.Operand.func 39), args := #[Go.Operand.tmp 78, Go.Operand.const (Go.Value.int Go.IntKind.i64 26), Go.Operand.const (Go.Value.int Go.IntKind.i64 4)], argTypes := #[40, 3, 3] }, type := 25, pos := "ref.go:133", after := #[{ on := 0, ground := Go.Ground.data }], guard := none }) rfl (fun K hK => ?_) AllReadyH.nil
    go_simp
    go_at_call 39
    refine (HT26.out _ (HB3.out _).drew).mono ?_
    rintro e wt26 ⟨rfl, rfl⟩
    refine hK.out _ _ (HS22.out _ (HB3.out _).drew) (fun hHeld => ?_)
    clear hK K
    try simp only [Act.put, List.setIfInBounds_toArray, List.set_cons_zero, List.set_cons_succ]
    refine wpAnyH_take (i := 2) (oi := { dst := some 80, op := Go.Op.convert 25 24 (Go.Operand.tmp 79), type := 24, pos := "ref.go:133", after := #[{ on := 1, ground := Go.Ground.data }], guard := none }) (v := ?_) rfl (by kernel_rfl) (by kernel_rfl) (by kernel_rfl) (fun _ _ _ h => h) (Or.inl ⟨by rfl, ?_⟩) (by assumption) ?_
    rotate_left
    · intro wS hSw
      try dsimp only at hSw
      go_split_ands
      go_simp
      try with_reducible rfl
    try simp only [Act.put, List.setIfInBounds_toArray, List.set_cons_zero, List.set_cons_succ]
    refine wpAnyH_ready (rs := [4]) (by kernel_rfl) (by simp) ?_
    refine AllReadyH.cons (o := { dst := some 82, op := Go.Op.call { callee := Go.Callee.value (Go.Operand.func 39), args := #[Go.Operand.tmp 81, Go.Operand.const (Go.Value.int Go.IntKind.i64 30), Go.Operand.const (Go.Value.int Go.IntKind.i64 4)], argTypes := #[40, 3, 3] }, type := 25, pos := "ref.go:133", after := #[{ on := 3, ground := Go.Ground.data }, { on := 1, ground := Go.Ground.chain }], guard := none }) rfl (fun K hK => ?_) AllReadyH.nil
    go_simp
    go_at_call 39
    refine (HT30.out _ (HB3.out _).drew).mono ?_
    rintro e wt30 ⟨rfl, rfl⟩
    refine hK.out _ _ (HS22.out _ (HB3.out _).drew) (fun hHeld => ?_)
    clear hK K
    try simp only [Act.put, List.setIfInBounds_toArray, List.set_cons_zero, List.set_cons_succ]
    refine wpAnyH_take (i := 5) (oi := { dst := some 83, op := Go.Op.convert 25 24 (Go.Operand.tmp 82), type := 24, pos := "ref.go:133", after := #[{ on := 4, ground := Go.Ground.data }], guard := none }) (v := ?_) rfl (by kernel_rfl) (by kernel_rfl) (by kernel_rfl) (fun _ _ _ h => h) (Or.inl ⟨by rfl, ?_⟩) (by assumption) ?_
    rotate_left
    · intro wS hSw
      try dsimp only at hSw
      go_split_ands
      go_simp
      try with_reducible rfl
    try simp only [Act.put, List.setIfInBounds_toArray, List.set_cons_zero, List.set_cons_succ]
    refine wpAnyH_take (i := 14) (oi := { dst := some 92, op := Go.Op.build 30 #[(0, Go.Operand.tmp 80), (1, Go.Operand.tmp 83), (2, Go.Operand.tmp 87), (3, Go.Operand.tmp 91)], type := 30, pos := "ref.go:133", after := #[{ on := 2, ground := Go.Ground.data }, { on := 5, ground := Go.Ground.data }, { on := 9, ground := Go.Ground.data }, { on := 13, ground := Go.Ground.data }], guard := none }) (v := ?_) rfl (by kernel_rfl) (by kernel_rfl) (by kernel_rfl) (fun _ _ _ h => h) (Or.inl ⟨by rfl, ?_⟩) (by assumption) ?_
    rotate_left
    · intro wS hSw
      try dsimp only at hSw
      go_split_ands
      go_simp
      try with_reducible rfl
    try simp only [Act.put, List.setIfInBounds_toArray, List.set_cons_zero, List.set_cons_succ]
    refine wpAnyH_take (i := 15) (oi := { dst := some 93, op := Go.Op.fieldAddr 32 (Go.Operand.tmp 4) 4, type := 0, pos := "ref.go:133", after := #[{ on := 0, ground := Go.Ground.phase }, { on := 1, ground := Go.Ground.phase }, { on := 2, ground := Go.Ground.phase }, { on := 3, ground := Go.Ground.phase }, { on := 4, ground := Go.Ground.phase }, { on := 5, ground := Go.Ground.phase }, { on := 6, ground := Go.Ground.phase }, { on := 7, ground := Go.Ground.phase }, { on := 8, ground := Go.Ground.phase }, { on := 9, ground := Go.Ground.phase }, { on := 10, ground := Go.Ground.phase }, { on := 11, ground := Go.Ground.phase }, { on := 12, ground := Go.Ground.phase }, { on := 13, ground := Go.Ground.phase }, { on := 14, ground := Go.Ground.phase }], guard := none }) (v := ?_) rfl (by kernel_rfl) (by kernel_rfl) (by kernel_rfl) (fun _ _ _ h => h) (Or.inl ⟨by rfl, ?_⟩) (by assumption) ?_
    rotate_left
    · intro wS hSw
      try dsimp only at hSw
      go_split_ands
      go_simp
      try with_reducible rfl
    try simp only [Act.put, List.setIfInBounds_toArray, List.set_cons_zero, List.set_cons_succ]
    refine wpAnyH_ready (rs := [16]) (by kernel_rfl) (by simp) ?_
    refine AllReadyH.cons (o := { dst := none, op := Go.Op.store 30 (Go.Operand.tmp 93) (Go.Operand.tmp 92), type := 0, pos := "ref.go:133", after := #[{ on := 15, ground := Go.Ground.data }, { on := 14, ground := Go.Ground.data }, { on := 4, ground := Go.Ground.chain }, { on := 0, ground := Go.Ground.phase }, { on := 1, ground := Go.Ground.phase }, { on := 2, ground := Go.Ground.phase }, { on := 3, ground := Go.Ground.phase }, { on := 4, ground := Go.Ground.phase }, { on := 5, ground := Go.Ground.phase }, { on := 6, ground := Go.Ground.phase }, { on := 7, ground := Go.Ground.phase }, { on := 8, ground := Go.Ground.phase }, { on := 9, ground := Go.Ground.phase }, { on := 10, ground := Go.Ground.phase }, { on := 11, ground := Go.Ground.phase }, { on := 12, ground := Go.Ground.phase }, { on := 13, ground := Go.Ground.phase }, { on := 14, ground := Go.Ground.phase }], guard := none }) rfl (fun K hK => ?_) AllReadyH.nil
    go_simp
    refine hK.out _ _ (HS22.out _ (by first | exact (HB3.out _).drew | exact HB3.out _)) (fun hHeld => ?_)
    clear hK K
    try simp only [Act.put, List.setIfInBounds_toArray, List.set_cons_zero, List.set_cons_succ]
    refine wpAnyH_done (by kernel_rfl) ?_ _
    go_wp2_with fail
    refine (HT34.out _ (by first | exact (HB3.out _).drew | exact HB3.out _)).mono ?_
    rintro e wt34 ⟨rfl, rfl⟩
    go_wp2_with fail
    have HWX : Hid (RW w fr0 0 0 (W2.alloc (.cells #[.int .u64 t6, .int .u64 t0, .int .i64 2, .int .i64 0, .int .u64 0, .int .u32 0, .int .u64 0, .int .u32 0, .int .u32 t26, .int .u32 t30, .int .i64 y22, .int .i64 y23, .int .i64 0, .int .i64 0, .int .u64 t34] 32)).drew) := Lib.hid (HW.out.below ((Below.refl _ W2).alloc (Nat.le_refl _) _).drew)
    have HBX : Hid (Has (W2.alloc (.cells #[.int .u64 t6, .int .u64 t0, .int .i64 2, .int .i64 0, .int .u64 0, .int .u32 0, .int .u64 0, .int .u32 0, .int .u32 t26, .int .u32 t30, .int .i64 y22, .int .i64 y23, .int .i64 0, .int .i64 0, .int .u64 t34] 32)).drew W2.heap.size 32 x.cs) := Lib.hid (HCs.out ▸ Has.new W2 _ _)
    refine (HY.out _).mono ?_
    rintro e w7 ⟨b7, c7, rfl, hrow, hsz7, hb⟩
    have hst2 := arr_string (row_arr hrow rfl) (fenc_pos x)
    rw [HM.out] at hst2
    clear hrow hsz7
    have HW7 := Lib.hid (HWX.out.below hb)
    have HB7 := Lib.hid (HBX.out.below hb)
    clear hb HWX HBX
    have hst1 := arr_string (HAr.out _ HW7.out.lo) (by rw [HNe.out]; omega)
    rw [HQ.out] at hst2
    generalize strOfNums bs = S at hst1 hst2
    go_wp2_with (first | (refine wpList_load_row rfl 32 (.tmp 4) rfl W2.heap.size rfl 32 x.cs (0, 0) _ HB7.out Try.underlying32 rfl x.fit ?_) | (refine wpList_store_row rfl 32 (.tmp 2) (.tmp 127) rfl w.heap.size x.cs rfl rfl 32 fr0.cs HW7.out.zer (FR.fit x) rfl (FR.one x) ?_; have HW5 := Lib.hid (HW7.out.row x); generalize w7.setRow w.heap.size x.cs = W5 at HW5 ⊢; have q0 := HW5.out.flt.cell 0; have q1 := HW5.out.flt.cell 1; have p0 := HW5.out.flt.free 0; have p1 := HW5.out.flt.free 1; simp only [List.getElem?_toArray, List.getElem?_cons_zero, List.getElem?_cons_succ] at q0 q1))
    have HE := Lib.hid (HW5.out.set 0 0)
    exact bodyPost_ret (v := .tuple #[.agg x.cs, .agg #[.int .i64 0, .int .i64 0]]) (rread_results _ rfl rfl HE.out) rfl ⟨by rw [HF.out], HE.out.lo⟩

end Go.Proofs.Ytgdfpmnbofnjfaa
