/- Packets: the document's Check; written by gen_pkk.py. -/
import Derived.Test.YtgdfpmnbofnjfaaPkJ
import Derived.RegionTactic
import Derived.ChangeAlike
import Derived.BigRegion
import Derived.Deep.DeepCutAuto
namespace Go.Proofs.Ytgdfpmnbofnjfaa
open Go.RowKit Go.Shelf
set_option linter.unusedVariables false
set_option linter.unusedSimpArgs false
set_option maxRecDepth 100000

/-- Behind the copies of the message and of the header. -/
structure RC (w : World) (x : FR) (B1 B2 : Nat) (W : World) : Prop where
  box : Has W w.heap.size 32 #[.int .u64 x.s, .int .u64 x.d, .int .i64 x.k, .int .i64 x.op, .int .u64 x.sm, .int .u32 x.si, .int .u64 x.tm, .int .u32 x.ti, .int .u32 x.hs, .int .u32 x.hd, .int .i64 x.tl, .int .i64 x.pr, .int .i64 x.sp, .int .i64 x.dp, .int .u64 x.da]
  ap : Has W B1 28 #[.int .i64 x.op, .int .u64 x.sm, .int .u32 x.si, .int .u64 x.tm, .int .u32 x.ti]
  hp : Has W B2 30 #[.int .u32 x.hs, .int .u32 x.hd, .int .i64 x.tl, .int .i64 x.pr, .int .i64 x.sp, .int .i64 x.dp]
  lo : Below w.heap.size w W
theorem up1 {w : World} {g : Nat} {t : TypeId} {cs : Array Value} (o : Obj) (h : Has w g t cs) : Has (w.alloc o) g t cs := h.below ((Below.refl _ _).alloc (Nat.le_refl _) _)
theorem rc_12 (w : World) (x : FR) : RC w x (w.heap.size + 1) (w.heap.size + 1 + 1) ((((w.alloc (.cells #[.int .u64 x.s, .int .u64 x.d, .int .i64 x.k, .int .i64 x.op, .int .u64 x.sm, .int .u32 x.si, .int .u64 x.tm, .int .u32 x.ti, .int .u32 x.hs, .int .u32 x.hd, .int .i64 x.tl, .int .i64 x.pr, .int .i64 x.sp, .int .i64 x.dp, .int .u64 x.da] 32)).alloc (.cells #[.int .i64 x.op, .int .u64 x.sm, .int .u32 x.si, .int .u64 x.tm, .int .u32 x.ti] 28)).alloc (.cells #[.int .u32 x.hs, .int .u32 x.hd, .int .i64 x.tl, .int .i64 x.pr, .int .i64 x.sp, .int .i64 x.dp] 30))).drew := by
  have a2 := Has.new (w.alloc (.cells #[.int .u64 x.s, .int .u64 x.d, .int .i64 x.k, .int .i64 x.op, .int .u64 x.sm, .int .u32 x.si, .int .u64 x.tm, .int .u32 x.ti, .int .u32 x.hs, .int .u32 x.hd, .int .i64 x.tl, .int .i64 x.pr, .int .i64 x.sp, .int .i64 x.dp, .int .u64 x.da] 32)) 28 #[.int .i64 x.op, .int .u64 x.sm, .int .u32 x.si, .int .u64 x.tm, .int .u32 x.ti]
  have a3 := Has.new ((w.alloc (.cells #[.int .u64 x.s, .int .u64 x.d, .int .i64 x.k, .int .i64 x.op, .int .u64 x.sm, .int .u32 x.si, .int .u64 x.tm, .int .u32 x.ti, .int .u32 x.hs, .int .u32 x.hd, .int .i64 x.tl, .int .i64 x.pr, .int .i64 x.sp, .int .i64 x.dp, .int .u64 x.da] 32)).alloc (.cells #[.int .i64 x.op, .int .u64 x.sm, .int .u32 x.si, .int .u64 x.tm, .int .u32 x.ti] 28)) 30 #[.int .u32 x.hs, .int .u32 x.hd, .int .i64 x.tl, .int .i64 x.pr, .int .i64 x.sp, .int .i64 x.dp]
  simp only [World.size_alloc] at a2 a3
  exact ⟨up1 _ (up1 _ (Has.new w _ _)), up1 _ a2, a3, ((((Below.refl _ w).alloc (Nat.le_refl _) _).alloc (by simp) _).alloc (by simp; omega) _).drew⟩
theorem rc_21 (w : World) (x : FR) : RC w x (w.heap.size + 1 + 1) (w.heap.size + 1) ((((w.alloc (.cells #[.int .u64 x.s, .int .u64 x.d, .int .i64 x.k, .int .i64 x.op, .int .u64 x.sm, .int .u32 x.si, .int .u64 x.tm, .int .u32 x.ti, .int .u32 x.hs, .int .u32 x.hd, .int .i64 x.tl, .int .i64 x.pr, .int .i64 x.sp, .int .i64 x.dp, .int .u64 x.da] 32)).alloc (.cells #[.int .u32 x.hs, .int .u32 x.hd, .int .i64 x.tl, .int .i64 x.pr, .int .i64 x.sp, .int .i64 x.dp] 30)).alloc (.cells #[.int .i64 x.op, .int .u64 x.sm, .int .u32 x.si, .int .u64 x.tm, .int .u32 x.ti] 28))).drew := by
  have a2 := Has.new (w.alloc (.cells #[.int .u64 x.s, .int .u64 x.d, .int .i64 x.k, .int .i64 x.op, .int .u64 x.sm, .int .u32 x.si, .int .u64 x.tm, .int .u32 x.ti, .int .u32 x.hs, .int .u32 x.hd, .int .i64 x.tl, .int .i64 x.pr, .int .i64 x.sp, .int .i64 x.dp, .int .u64 x.da] 32)) 30 #[.int .u32 x.hs, .int .u32 x.hd, .int .i64 x.tl, .int .i64 x.pr, .int .i64 x.sp, .int .i64 x.dp]
  have a3 := Has.new ((w.alloc (.cells #[.int .u64 x.s, .int .u64 x.d, .int .i64 x.k, .int .i64 x.op, .int .u64 x.sm, .int .u32 x.si, .int .u64 x.tm, .int .u32 x.ti, .int .u32 x.hs, .int .u32 x.hd, .int .i64 x.tl, .int .i64 x.pr, .int .i64 x.sp, .int .i64 x.dp, .int .u64 x.da] 32)).alloc (.cells #[.int .u32 x.hs, .int .u32 x.hd, .int .i64 x.tl, .int .i64 x.pr, .int .i64 x.sp, .int .i64 x.dp] 30)) 28 #[.int .i64 x.op, .int .u64 x.sm, .int .u32 x.si, .int .u64 x.tm, .int .u32 x.ti]
  simp only [World.size_alloc] at a2 a3
  exact ⟨up1 _ (up1 _ (Has.new w _ _)), a3, up1 _ a2, ((((Below.refl _ w).alloc (Nat.le_refl _) _).alloc (by simp) _).alloc (by simp; omega) _).drew⟩

set_option maxHeartbeats 4000000 in
theorem rchk_big (x : FR) (hx : x.ty) (h : big x.s = true ∨ big x.d = true) (w : World) : Calls Try.prog 36 #[.agg x.cs] w fun e w' => e = .returned (.int .i64 (fchk x)) ∧ Below w.heap.size w w' := by
  have HE : Hid (fchk x = 2) := Lib.hid (by unfold fchk; rw [if_pos h])
  obtain ⟨b1, hb1⟩ : ∃ b, decide (281474976710655 < x.s) = b := ⟨_, rfl⟩
  obtain ⟨b2, hb2⟩ : ∃ b, decide (281474976710655 < x.d) = b := ⟨_, rfl⟩
  have HH : Hid (b1 = true ∨ b2 = true) := Lib.hid (by unfold big at h; rwa [hb1, hb2] at h)
  clear h hx
  unfold FR.cs
  have H12 := Lib.hid (rc_12 w x)
  have H21 := Lib.hid (rc_21 w x)
  go_enter Try.func36, Try.ntmps36
  go_upto_region 1 with fail
  go_cut [3, 4] (fun v3 v4 wx => ∃ B1 B2, v3 = .pointer (some ⟨B1, 0, none⟩) ∧ v4 = .pointer (some ⟨B2, 0, none⟩) ∧ RC w x B1 B2 wx)
  case first =>
    go_wp2_with fail
    go_region
    all_goals (go_wp2_with fail; go_meet)
    · exact ⟨_, _, rfl, rfl, H12.out⟩
    · exact ⟨_, _, rfl, rfl, H21.out⟩
  case rest =>
    obtain ⟨B1, B2, rfl, rfl, hrc⟩ := hcut
    clear H12 H21
    have HR := Lib.hid hrc
    have c0 := hrc.box.cell 0
    have c1 := hrc.box.cell 1
    have c2 := hrc.box.cell 2
    have a0 := hrc.ap.cell 0
    have a1 := hrc.ap.cell 1
    have a2 := hrc.ap.cell 2
    have a3 := hrc.ap.cell 3
    have a4 := hrc.ap.cell 4
    have h0 := hrc.hp.cell 0
    have h1 := hrc.hp.cell 1
    have h2 := hrc.hp.cell 2
    have h3 := hrc.hp.cell 3
    have h4 := hrc.hp.cell 4
    have h5 := hrc.hp.cell 5
    simp only [List.getElem?_toArray, List.getElem?_cons_zero, List.getElem?_cons_succ] at c0 c1 c2 a0 a1 a2 a3 a4 h0 h1 h2 h3 h4 h5
    clear hrc
    cases b1
    · cases b2
      · exact absurd HH.out (by simp)
      · go_wp2_with fail
        go_ret
        exact ⟨by rw [HE.out]; rfl, HR.out.lo⟩
    · go_wp2_with fail
      go_ret
      exact ⟨by rw [HE.out]; rfl, HR.out.lo⟩

set_option maxHeartbeats 4000000 in
theorem rchk_mc (x : FR) (hx : x.ty) (hsd : ¬ (big x.s = true ∨ big x.d = true)) (hm : mc x.s = true) (w : World) : Calls Try.prog 36 #[.agg x.cs] w fun e w' => e = .returned (.int .i64 (fchk x)) ∧ Below w.heap.size w w' := by
  have hb1 : decide (281474976710655 < x.s) = false := by have h := hsd; unfold big at h; simp at h; simpa using h.1
  have hb2 : decide (281474976710655 < x.d) = false := by have h := hsd; unfold big at h; simp at h; simpa using h.2
  have HMc : Hid (∀ W : World, Calls Try.prog 63 #[.int .u64 x.s] W fun e w' => e = .returned (.bool true) ∧ W = w') := Lib.hid (fun W => hm ▸ rmulti_any x.s hx.s.1 (by have := of_decide_eq_false hb1; omega) W)
  have HE : Hid (fchk x = 3) := Lib.hid (by unfold fchk; rw [if_neg hsd, hm]; rfl)
  clear hsd hm hx
  unfold FR.cs
  have H12 := Lib.hid (rc_12 w x)
  have H21 := Lib.hid (rc_21 w x)
  go_enter Try.func36, Try.ntmps36
  go_upto_region 1 with fail
  go_cut [3, 4] (fun v3 v4 wx => ∃ B1 B2, v3 = .pointer (some ⟨B1, 0, none⟩) ∧ v4 = .pointer (some ⟨B2, 0, none⟩) ∧ RC w x B1 B2 wx)
  case first =>
    go_wp2_with fail
    go_region
    all_goals (go_wp2_with fail; go_meet)
    · exact ⟨_, _, rfl, rfl, H12.out⟩
    · exact ⟨_, _, rfl, rfl, H21.out⟩
  case rest =>
    obtain ⟨B1, B2, rfl, rfl, hrc⟩ := hcut
    clear H12 H21
    have HR := Lib.hid hrc
    have c0 := hrc.box.cell 0
    have c1 := hrc.box.cell 1
    have c2 := hrc.box.cell 2
    have a0 := hrc.ap.cell 0
    have a1 := hrc.ap.cell 1
    have a2 := hrc.ap.cell 2
    have a3 := hrc.ap.cell 3
    have a4 := hrc.ap.cell 4
    have h0 := hrc.hp.cell 0
    have h1 := hrc.hp.cell 1
    have h2 := hrc.hp.cell 2
    have h3 := hrc.hp.cell 3
    have h4 := hrc.hp.cell 4
    have h5 := hrc.hp.cell 5
    simp only [List.getElem?_toArray, List.getElem?_cons_zero, List.getElem?_cons_succ] at c0 c1 c2 a0 a1 a2 a3 a4 h0 h1 h2 h3 h4 h5
    clear hrc
    go_wp2_with (go_at_call 63; refine (HMc.out _).mono ?_; rintro e w8 ⟨rfl, rfl⟩)
    go_ret
    exact ⟨by rw [HE.out]; rfl, HR.out.lo⟩

set_option maxHeartbeats 4000000 in
theorem rchk_kind (x : FR) (hx : x.ty) (hsd : ¬ (big x.s = true ∨ big x.d = true)) (hm : mc x.s = false) (hk : x.k < 0 ∨ 2 < x.k) (w : World) : Calls Try.prog 36 #[.agg x.cs] w fun e w' => e = .returned (.int .i64 (fchk x)) ∧ Below w.heap.size w w' := by
  have hb1 : decide (281474976710655 < x.s) = false := by have h := hsd; unfold big at h; simp at h; simpa using h.1
  have hb2 : decide (281474976710655 < x.d) = false := by have h := hsd; unfold big at h; simp at h; simpa using h.2
  have HMc : Hid (∀ W : World, Calls Try.prog 63 #[.int .u64 x.s] W fun e w' => e = .returned (.bool false) ∧ W = w') := Lib.hid (fun W => hm ▸ rmulti_any x.s hx.s.1 (by have := of_decide_eq_false hb1; omega) W)
  have HE : Hid (fchk x = 6) := Lib.hid (by
    have h6 : perr x = 6 := by unfold perr; rw [if_pos hk]
    unfold fchk; rw [if_neg hsd, hm, if_neg (by decide), h6, if_pos (by decide)])
  obtain ⟨b3, hb3⟩ : ∃ b, decide (x.k < 0) = b := ⟨_, rfl⟩
  have hb4 : b3 = false → decide (2 < x.k) = true := fun h => by rw [← hb3] at h; have := of_decide_eq_false h; exact decide_eq_true (by omega)
  have HB4 := Lib.hid hb4
  clear hsd hm hx hk hb4
  unfold FR.cs
  have H12 := Lib.hid (rc_12 w x)
  have H21 := Lib.hid (rc_21 w x)
  go_enter Try.func36, Try.ntmps36
  go_upto_region 1 with fail
  go_cut [3, 4] (fun v3 v4 wx => ∃ B1 B2, v3 = .pointer (some ⟨B1, 0, none⟩) ∧ v4 = .pointer (some ⟨B2, 0, none⟩) ∧ RC w x B1 B2 wx)
  case first =>
    go_wp2_with fail
    go_region
    all_goals (go_wp2_with fail; go_meet)
    · exact ⟨_, _, rfl, rfl, H12.out⟩
    · exact ⟨_, _, rfl, rfl, H21.out⟩
  case rest =>
    obtain ⟨B1, B2, rfl, rfl, hrc⟩ := hcut
    clear H12 H21
    have HR := Lib.hid hrc
    have c0 := hrc.box.cell 0
    have c1 := hrc.box.cell 1
    have c2 := hrc.box.cell 2
    have a0 := hrc.ap.cell 0
    have a1 := hrc.ap.cell 1
    have a2 := hrc.ap.cell 2
    have a3 := hrc.ap.cell 3
    have a4 := hrc.ap.cell 4
    have h0 := hrc.hp.cell 0
    have h1 := hrc.hp.cell 1
    have h2 := hrc.hp.cell 2
    have h3 := hrc.hp.cell 3
    have h4 := hrc.hp.cell 4
    have h5 := hrc.hp.cell 5
    simp only [List.getElem?_toArray, List.getElem?_cons_zero, List.getElem?_cons_succ] at c0 c1 c2 a0 a1 a2 a3 a4 h0 h1 h2 h3 h4 h5
    clear hrc
    cases b3
    · have hb4 := HB4.out rfl
      go_wp2_with (go_at_call 63; refine (HMc.out _).mono ?_; rintro e w8 ⟨rfl, rfl⟩)
      go_ret
      exact ⟨by rw [HE.out]; rfl, HR.out.lo⟩
    · go_wp2_with (go_at_call 63; refine (HMc.out _).mono ?_; rintro e w8 ⟨rfl, rfl⟩)
      go_ret
      exact ⟨by rw [HE.out]; rfl, HR.out.lo⟩

set_option maxHeartbeats 4000000 in
theorem rchk_bad0 (x : FR) (hx : x.ty) (hsd : ¬ (big x.s = true ∨ big x.d = true)) (hm : mc x.s = false) (hk : x.k = 0) (hp : x.sameA fr0 = false ∨ x.sameH fr0 = false) (w : World) : Calls Try.prog 36 #[.agg x.cs] w fun e w' => e = .returned (.int .i64 (fchk x)) ∧ Below w.heap.size w w' := by
  have hb1 : decide (281474976710655 < x.s) = false := by have h := hsd; unfold big at h; simp at h; simpa using h.1
  have hb2 : decide (281474976710655 < x.d) = false := by have h := hsd; unfold big at h; simp at h; simpa using h.2
  have HMc : Hid (∀ W : World, Calls Try.prog 63 #[.int .u64 x.s] W fun e w' => e = .returned (.bool false) ∧ W = w') := Lib.hid (fun W => hm ▸ rmulti_any x.s hx.s.1 (by have := of_decide_eq_false hb1; omega) W)
  have HE : Hid (fchk x = 3) := Lib.hid (by
    have h6 : perr x = 3 := by unfold perr; rw [if_neg (by omega), if_pos (by rcases hp with h | h; exact .inl ⟨by omega, h⟩; exact .inr ⟨by omega, h⟩)]
    unfold fchk; rw [if_neg hsd, hm, if_neg (by decide), h6, if_pos (by decide)])
  obtain ⟨bA, hA⟩ : ∃ b, x.sameA fr0 = b := ⟨_, rfl⟩
  obtain ⟨bH, hH⟩ : ∃ b, x.sameH fr0 = b := ⟨_, rfl⟩
  have hneqA := neq_ap x fr0
  have hneqH := neq_hp x fr0
  rw [hA] at hneqA
  rw [hH] at hneqH
  simp only [FR.ac, FR.hc, fr0] at hneqA hneqH
  rw [hA, hH] at hp
  have HP := Lib.hid hp
  have HK := Lib.hid hk
  clear hsd hm hx hk hp hA hH
  unfold FR.cs
  have H12 := Lib.hid (rc_12 w x)
  have H21 := Lib.hid (rc_21 w x)
  go_enter Try.func36, Try.ntmps36
  go_upto_region 1 with fail
  go_cut [3, 4] (fun v3 v4 wx => ∃ B1 B2, v3 = .pointer (some ⟨B1, 0, none⟩) ∧ v4 = .pointer (some ⟨B2, 0, none⟩) ∧ RC w x B1 B2 wx)
  case first =>
    go_wp2_with fail
    go_region
    all_goals (go_wp2_with fail; go_meet)
    · exact ⟨_, _, rfl, rfl, H12.out⟩
    · exact ⟨_, _, rfl, rfl, H21.out⟩
  case rest =>
    obtain ⟨B1, B2, rfl, rfl, hrc⟩ := hcut
    clear H12 H21
    have HR := Lib.hid hrc
    have c0 := hrc.box.cell 0
    have c1 := hrc.box.cell 1
    have c2 := hrc.box.cell 2
    have a0 := hrc.ap.cell 0
    have a1 := hrc.ap.cell 1
    have a2 := hrc.ap.cell 2
    have a3 := hrc.ap.cell 3
    have a4 := hrc.ap.cell 4
    have h0 := hrc.hp.cell 0
    have h1 := hrc.hp.cell 1
    have h2 := hrc.hp.cell 2
    have h3 := hrc.hp.cell 3
    have h4 := hrc.hp.cell 4
    have h5 := hrc.hp.cell 5
    simp only [List.getElem?_toArray, List.getElem?_cons_zero, List.getElem?_cons_succ] at c0 c1 c2 a0 a1 a2 a3 a4 h0 h1 h2 h3 h4 h5
    clear hrc
    rw [HK.out] at c2
    cases bA
    · go_wp2_with (go_at_call 63; refine (HMc.out _).mono ?_; rintro e w8 ⟨rfl, rfl⟩)
      go_ret
      exact ⟨by rw [HE.out]; rfl, HR.out.lo⟩
    · cases bH
      · go_wp2_with (go_at_call 63; refine (HMc.out _).mono ?_; rintro e w8 ⟨rfl, rfl⟩)
        go_ret
        exact ⟨by rw [HE.out]; rfl, HR.out.lo⟩
      · exact absurd HP.out (by simp)

set_option maxHeartbeats 4000000 in
theorem rchk_bad1 (x : FR) (hx : x.ty) (hsd : ¬ (big x.s = true ∨ big x.d = true)) (hm : mc x.s = false) (hk : x.k = 1) (hp : x.sameH fr0 = false) (w : World) : Calls Try.prog 36 #[.agg x.cs] w fun e w' => e = .returned (.int .i64 (fchk x)) ∧ Below w.heap.size w w' := by
  have hb1 : decide (281474976710655 < x.s) = false := by have h := hsd; unfold big at h; simp at h; simpa using h.1
  have hb2 : decide (281474976710655 < x.d) = false := by have h := hsd; unfold big at h; simp at h; simpa using h.2
  have HMc : Hid (∀ W : World, Calls Try.prog 63 #[.int .u64 x.s] W fun e w' => e = .returned (.bool false) ∧ W = w') := Lib.hid (fun W => hm ▸ rmulti_any x.s hx.s.1 (by have := of_decide_eq_false hb1; omega) W)
  have HE : Hid (fchk x = 3) := Lib.hid (by
    have h6 : perr x = 3 := by unfold perr; rw [if_neg (by omega), if_pos (.inr ⟨by omega, hp⟩)]
    unfold fchk; rw [if_neg hsd, hm, if_neg (by decide), h6, if_pos (by decide)])
  obtain ⟨bA, hA⟩ : ∃ b, x.sameA fr0 = b := ⟨_, rfl⟩
  obtain ⟨bH, hH⟩ : ∃ b, x.sameH fr0 = b := ⟨_, rfl⟩
  have hneqA := neq_ap x fr0
  have hneqH := neq_hp x fr0
  rw [hA] at hneqA
  rw [hH] at hneqH
  simp only [FR.ac, FR.hc, fr0] at hneqA hneqH
  rw [hH] at hp
  have HP := Lib.hid hp
  have HK := Lib.hid hk
  clear hsd hm hx hk hp hA hH
  unfold FR.cs
  have H12 := Lib.hid (rc_12 w x)
  have H21 := Lib.hid (rc_21 w x)
  go_enter Try.func36, Try.ntmps36
  go_upto_region 1 with fail
  go_cut [3, 4] (fun v3 v4 wx => ∃ B1 B2, v3 = .pointer (some ⟨B1, 0, none⟩) ∧ v4 = .pointer (some ⟨B2, 0, none⟩) ∧ RC w x B1 B2 wx)
  case first =>
    go_wp2_with fail
    go_region
    all_goals (go_wp2_with fail; go_meet)
    · exact ⟨_, _, rfl, rfl, H12.out⟩
    · exact ⟨_, _, rfl, rfl, H21.out⟩
  case rest =>
    obtain ⟨B1, B2, rfl, rfl, hrc⟩ := hcut
    clear H12 H21
    have HR := Lib.hid hrc
    have c0 := hrc.box.cell 0
    have c1 := hrc.box.cell 1
    have c2 := hrc.box.cell 2
    have a0 := hrc.ap.cell 0
    have a1 := hrc.ap.cell 1
    have a2 := hrc.ap.cell 2
    have a3 := hrc.ap.cell 3
    have a4 := hrc.ap.cell 4
    have h0 := hrc.hp.cell 0
    have h1 := hrc.hp.cell 1
    have h2 := hrc.hp.cell 2
    have h3 := hrc.hp.cell 3
    have h4 := hrc.hp.cell 4
    have h5 := hrc.hp.cell 5
    simp only [List.getElem?_toArray, List.getElem?_cons_zero, List.getElem?_cons_succ] at c0 c1 c2 a0 a1 a2 a3 a4 h0 h1 h2 h3 h4 h5
    clear hrc
    rw [HK.out] at c2
    cases bH
    · go_wp2_with (go_at_call 63; refine (HMc.out _).mono ?_; rintro e w8 ⟨rfl, rfl⟩)
      go_ret
      exact ⟨by rw [HE.out]; rfl, HR.out.lo⟩
    · exact absurd HP.out (by simp)

set_option maxHeartbeats 4000000 in
theorem rchk_bad2 (x : FR) (hx : x.ty) (hsd : ¬ (big x.s = true ∨ big x.d = true)) (hm : mc x.s = false) (hk : x.k = 2) (hp : x.sameA fr0 = false) (w : World) : Calls Try.prog 36 #[.agg x.cs] w fun e w' => e = .returned (.int .i64 (fchk x)) ∧ Below w.heap.size w w' := by
  have hb1 : decide (281474976710655 < x.s) = false := by have h := hsd; unfold big at h; simp at h; simpa using h.1
  have hb2 : decide (281474976710655 < x.d) = false := by have h := hsd; unfold big at h; simp at h; simpa using h.2
  have HMc : Hid (∀ W : World, Calls Try.prog 63 #[.int .u64 x.s] W fun e w' => e = .returned (.bool false) ∧ W = w') := Lib.hid (fun W => hm ▸ rmulti_any x.s hx.s.1 (by have := of_decide_eq_false hb1; omega) W)
  have HE : Hid (fchk x = 3) := Lib.hid (by
    have h6 : perr x = 3 := by unfold perr; rw [if_neg (by omega), if_pos (.inl ⟨by omega, hp⟩)]
    unfold fchk; rw [if_neg hsd, hm, if_neg (by decide), h6, if_pos (by decide)])
  obtain ⟨bA, hA⟩ : ∃ b, x.sameA fr0 = b := ⟨_, rfl⟩
  obtain ⟨bH, hH⟩ : ∃ b, x.sameH fr0 = b := ⟨_, rfl⟩
  have hneqA := neq_ap x fr0
  have hneqH := neq_hp x fr0
  rw [hA] at hneqA
  rw [hH] at hneqH
  simp only [FR.ac, FR.hc, fr0] at hneqA hneqH
  rw [hA] at hp
  have HP := Lib.hid hp
  have HK := Lib.hid hk
  clear hsd hm hx hk hp hA hH
  unfold FR.cs
  have H12 := Lib.hid (rc_12 w x)
  have H21 := Lib.hid (rc_21 w x)
  go_enter Try.func36, Try.ntmps36
  go_upto_region 1 with fail
  go_cut [3, 4] (fun v3 v4 wx => ∃ B1 B2, v3 = .pointer (some ⟨B1, 0, none⟩) ∧ v4 = .pointer (some ⟨B2, 0, none⟩) ∧ RC w x B1 B2 wx)
  case first =>
    go_wp2_with fail
    go_region
    all_goals (go_wp2_with fail; go_meet)
    · exact ⟨_, _, rfl, rfl, H12.out⟩
    · exact ⟨_, _, rfl, rfl, H21.out⟩
  case rest =>
    obtain ⟨B1, B2, rfl, rfl, hrc⟩ := hcut
    clear H12 H21
    have HR := Lib.hid hrc
    have c0 := hrc.box.cell 0
    have c1 := hrc.box.cell 1
    have c2 := hrc.box.cell 2
    have a0 := hrc.ap.cell 0
    have a1 := hrc.ap.cell 1
    have a2 := hrc.ap.cell 2
    have a3 := hrc.ap.cell 3
    have a4 := hrc.ap.cell 4
    have h0 := hrc.hp.cell 0
    have h1 := hrc.hp.cell 1
    have h2 := hrc.hp.cell 2
    have h3 := hrc.hp.cell 3
    have h4 := hrc.hp.cell 4
    have h5 := hrc.hp.cell 5
    simp only [List.getElem?_toArray, List.getElem?_cons_zero, List.getElem?_cons_succ] at c0 c1 c2 a0 a1 a2 a3 a4 h0 h1 h2 h3 h4 h5
    clear hrc
    rw [HK.out] at c2
    cases bA
    · go_wp2_with (go_at_call 63; refine (HMc.out _).mono ?_; rintro e w8 ⟨rfl, rfl⟩)
      go_ret
      exact ⟨by rw [HE.out]; rfl, HR.out.lo⟩
    · exact absurd HP.out (by simp)

set_option maxHeartbeats 4000000 in
theorem rchk_ok0 (x : FR) (hx : x.ty) (hsd : ¬ (big x.s = true ∨ big x.d = true)) (hm : mc x.s = false) (hk : x.k = 0) (hp : perr x = 0) (w : World) : Calls Try.prog 36 #[.agg x.cs] w fun e w' => e = .returned (.int .i64 (fchk x)) ∧ Below w.heap.size w w' := by
  have hb1 : decide (281474976710655 < x.s) = false := by have h := hsd; unfold big at h; simp at h; simpa using h.1
  have hb2 : decide (281474976710655 < x.d) = false := by have h := hsd; unfold big at h; simp at h; simpa using h.2
  have HMc : Hid (∀ W : World, Calls Try.prog 63 #[.int .u64 x.s] W fun e w' => e = .returned (.bool false) ∧ W = w') := Lib.hid (fun W => hm ▸ rmulti_any x.s hx.s.1 (by have := of_decide_eq_false hb1; omega) W)
  have h6 : perr x = 0 := hp
  obtain ⟨hzA, hzH⟩ := perr_zero hp
  have HE : Hid (fchk x = 0) := Lib.hid (by unfold fchk; rw [if_neg hsd, hm, if_neg (by decide), if_neg (by omega), if_neg (by omega), if_neg (by omega)])
  have hA := hzA (by omega)
  have hH := hzH (by omega)
  obtain ⟨z6, z7, z8, z9, z10, z11⟩ := sameH_zero hH
  have hneqA := neq_ap x fr0
  have hneqH := neq_hp x fr0
  rw [hA] at hneqA
  rw [hH] at hneqH
  simp only [FR.ac, FR.hc, fr0, z6, z7, z8, z9, z10, z11] at hneqA hneqH
  have HPd : Hid (∀ W : World, Calls Try.prog 61 #[.int .i64 0] W fun e w' => e = .returned (.bool false) ∧ W = w') := Lib.hid (fun W => rported_any 0 W)
  have HK := Lib.hid hk
  have HZ := Lib.hid (And.intro z6 (And.intro z7 (And.intro z8 (And.intro z9 (And.intro z10 z11)))))
  clear hsd hm hx hk hp hA hH hzA hzH h6 z6 z7 z8 z9 z10 z11
  unfold FR.cs
  have H12 := Lib.hid (rc_12 w x)
  have H21 := Lib.hid (rc_21 w x)
  go_enter Try.func36, Try.ntmps36
  go_upto_region 1 with fail
  go_cut [3, 4] (fun v3 v4 wx => ∃ B1 B2, v3 = .pointer (some ⟨B1, 0, none⟩) ∧ v4 = .pointer (some ⟨B2, 0, none⟩) ∧ RC w x B1 B2 wx)
  case first =>
    go_wp2_with fail
    go_region
    all_goals (go_wp2_with fail; go_meet)
    · exact ⟨_, _, rfl, rfl, H12.out⟩
    · exact ⟨_, _, rfl, rfl, H21.out⟩
  case rest =>
    obtain ⟨B1, B2, rfl, rfl, hrc⟩ := hcut
    clear H12 H21
    have HR := Lib.hid hrc
    have c0 := hrc.box.cell 0
    have c1 := hrc.box.cell 1
    have c2 := hrc.box.cell 2
    have a0 := hrc.ap.cell 0
    have a1 := hrc.ap.cell 1
    have a2 := hrc.ap.cell 2
    have a3 := hrc.ap.cell 3
    have a4 := hrc.ap.cell 4
    have h0 := hrc.hp.cell 0
    have h1 := hrc.hp.cell 1
    have h2 := hrc.hp.cell 2
    have h3 := hrc.hp.cell 3
    have h4 := hrc.hp.cell 4
    have h5 := hrc.hp.cell 5
    simp only [List.getElem?_toArray, List.getElem?_cons_zero, List.getElem?_cons_succ] at c0 c1 c2 a0 a1 a2 a3 a4 h0 h1 h2 h3 h4 h5
    clear hrc
    rw [HK.out] at c2
    obtain ⟨z6, z7, z8, z9, z10, z11⟩ := HZ.out
    rw [z6] at h0
    rw [z7] at h1
    rw [z8] at h2
    rw [z9] at h3
    rw [z10] at h4
    rw [z11] at h5
    clear z6 z7 z8 z9 z10 z11
    go_wp2_with (first | (go_at_call 63; refine (HMc.out _).mono ?_; rintro e w8 ⟨rfl, rfl⟩) | (go_at_call 61; refine (HPd.out _).mono ?_; rintro e w9 ⟨rfl, rfl⟩))
    go_ret
    exact ⟨by rw [HE.out]; rfl, HR.out.lo⟩

set_option maxHeartbeats 4000000 in
theorem rchk_ok1 (x : FR) (hx : x.ty) (hsd : ¬ (big x.s = true ∨ big x.d = true)) (hm : mc x.s = false) (hk : x.k = 1) (hp : perr x = 0) (w : World) : Calls Try.prog 36 #[.agg x.cs] w fun e w' => e = .returned (.int .i64 (fchk x)) ∧ Below w.heap.size w w' := by
  have hb1 : decide (281474976710655 < x.s) = false := by have h := hsd; unfold big at h; simp at h; simpa using h.1
  have hb2 : decide (281474976710655 < x.d) = false := by have h := hsd; unfold big at h; simp at h; simpa using h.2
  have HMc : Hid (∀ W : World, Calls Try.prog 63 #[.int .u64 x.s] W fun e w' => e = .returned (.bool false) ∧ W = w') := Lib.hid (fun W => hm ▸ rmulti_any x.s hx.s.1 (by have := of_decide_eq_false hb1; omega) W)
  have h6 : perr x = 0 := hp
  obtain ⟨hzA, hzH⟩ := perr_zero hp
  have HE : Hid (fchk x = ackA x) := Lib.hid (by unfold fchk; rw [if_neg hsd, hm, if_neg (by decide), if_neg (by omega), if_pos hk])
  have hH := hzH (by omega)
  obtain ⟨z6, z7, z8, z9, z10, z11⟩ := sameH_zero hH
  have hneqH := neq_hp x fr0
  rw [hH] at hneqH
  simp only [FR.hc, fr0, z6, z7, z8, z9, z10, z11] at hneqH
  have HPd : Hid (∀ W : World, Calls Try.prog 61 #[.int .i64 0] W fun e w' => e = .returned (.bool false) ∧ W = w') := Lib.hid (fun W => rported_any 0 W)
  have HK := Lib.hid hk
  have HZ := Lib.hid (And.intro z6 (And.intro z7 (And.intro z8 (And.intro z9 (And.intro z10 z11)))))
  clear hsd hm hx hk hp hH hzA hzH h6 z6 z7 z8 z9 z10 z11
  unfold FR.cs
  have H12 := Lib.hid (rc_12 w x)
  have H21 := Lib.hid (rc_21 w x)
  go_enter Try.func36, Try.ntmps36
  go_upto_region 1 with fail
  go_cut [3, 4] (fun v3 v4 wx => ∃ B1 B2, v3 = .pointer (some ⟨B1, 0, none⟩) ∧ v4 = .pointer (some ⟨B2, 0, none⟩) ∧ RC w x B1 B2 wx)
  case first =>
    go_wp2_with fail
    go_region
    all_goals (go_wp2_with fail; go_meet)
    · exact ⟨_, _, rfl, rfl, H12.out⟩
    · exact ⟨_, _, rfl, rfl, H21.out⟩
  case rest =>
    obtain ⟨B1, B2, rfl, rfl, hrc⟩ := hcut
    clear H12 H21
    have HR := Lib.hid hrc
    have c0 := hrc.box.cell 0
    have c1 := hrc.box.cell 1
    have c2 := hrc.box.cell 2
    have a0 := hrc.ap.cell 0
    have a1 := hrc.ap.cell 1
    have a2 := hrc.ap.cell 2
    have a3 := hrc.ap.cell 3
    have a4 := hrc.ap.cell 4
    have h0 := hrc.hp.cell 0
    have h1 := hrc.hp.cell 1
    have h2 := hrc.hp.cell 2
    have h3 := hrc.hp.cell 3
    have h4 := hrc.hp.cell 4
    have h5 := hrc.hp.cell 5
    simp only [List.getElem?_toArray, List.getElem?_cons_zero, List.getElem?_cons_succ] at c0 c1 c2 a0 a1 a2 a3 a4 h0 h1 h2 h3 h4 h5
    clear hrc
    rw [HK.out] at c2
    obtain ⟨z6, z7, z8, z9, z10, z11⟩ := HZ.out
    rw [z6] at h0
    rw [z7] at h1
    rw [z8] at h2
    rw [z9] at h3
    rw [z10] at h4
    rw [z11] at h5
    clear z6 z7 z8 z9 z10 z11
    obtain ⟨op, hop⟩ : ∃ op, x.op = op := ⟨_, rfl⟩
    obtain ⟨b5, hb5⟩ : ∃ b, decide (281474976710655 < x.sm) = b := ⟨_, rfl⟩
    obtain ⟨b6, hb6⟩ : ∃ b, decide (281474976710655 < x.tm) = b := ⟨_, rfl⟩
    have HA : Hid (ackA x = if op ≠ 1 ∧ op ≠ 2 then 2 else if b5 then 2 else if b6 then 2 else 0) := Lib.hid (by unfold ackA big; rw [hop, hb5, hb6])
    rw [hop] at a0
    clear hop
    by_cases g1 : op < 1
    · have HA2 : Hid (ackA x = 2) := Lib.hid (by rw [HA.out, if_pos (by omega)])
      go_wp2_with (go_at_call 63; refine (HMc.out _).mono ?_; rintro e w8 ⟨rfl, rfl⟩)
      go_ret
      exact ⟨by rw [HE.out, HA2.out]; rfl, HR.out.lo⟩
    by_cases g2 : 2 < op
    · have HA2 : Hid (ackA x = 2) := Lib.hid (by rw [HA.out, if_pos (by omega)])
      have g1' : decide (op < 1) = false := decide_eq_false g1
      go_wp2_with (go_at_call 63; refine (HMc.out _).mono ?_; rintro e w8 ⟨rfl, rfl⟩)
      go_ret
      exact ⟨by rw [HE.out, HA2.out]; rfl, HR.out.lo⟩
    have g1' : decide (op < 1) = false := decide_eq_false g1
    have g2' : decide (2 < op) = false := decide_eq_false g2
    have HA2 : Hid (ackA x = if b5 then 2 else if b6 then 2 else 0) := Lib.hid (by rw [HA.out, if_neg (by omega)])
    clear HA
    cases b5
    · cases b6
      · go_wp2_with (first | (go_at_call 63; refine (HMc.out _).mono ?_; rintro e w8 ⟨rfl, rfl⟩) | (go_at_call 61; refine (HPd.out _).mono ?_; rintro e w9 ⟨rfl, rfl⟩))
        go_ret
        exact ⟨by rw [HE.out, HA2.out]; rfl, HR.out.lo⟩
      · go_wp2_with (go_at_call 63; refine (HMc.out _).mono ?_; rintro e w8 ⟨rfl, rfl⟩)
        go_ret
        exact ⟨by rw [HE.out, HA2.out]; rfl, HR.out.lo⟩
    · go_wp2_with (go_at_call 63; refine (HMc.out _).mono ?_; rintro e w8 ⟨rfl, rfl⟩)
      go_ret
      exact ⟨by rw [HE.out, HA2.out]; rfl, HR.out.lo⟩

set_option maxHeartbeats 4000000 in
theorem rchk_ok2 (x : FR) (hx : x.ty) (hsd : ¬ (big x.s = true ∨ big x.d = true)) (hm : mc x.s = false) (hk : x.k = 2) (hp : perr x = 0) (w : World) : Calls Try.prog 36 #[.agg x.cs] w fun e w' => e = .returned (.int .i64 (fchk x)) ∧ Below w.heap.size w w' := by
  have hb1 : decide (281474976710655 < x.s) = false := by have h := hsd; unfold big at h; simp at h; simpa using h.1
  have hb2 : decide (281474976710655 < x.d) = false := by have h := hsd; unfold big at h; simp at h; simpa using h.2
  have HMc : Hid (∀ W : World, Calls Try.prog 63 #[.int .u64 x.s] W fun e w' => e = .returned (.bool false) ∧ W = w') := Lib.hid (fun W => hm ▸ rmulti_any x.s hx.s.1 (by have := of_decide_eq_false hb1; omega) W)
  have h6 : perr x = 0 := hp
  obtain ⟨hzA, hzH⟩ := perr_zero hp
  have HE : Hid (fchk x = ackH x) := Lib.hid (by unfold fchk; rw [if_neg hsd, hm, if_neg (by decide), if_neg (by omega), if_neg (by omega), if_pos hk])
  have hA := hzA (by omega)
  have hneqA := neq_ap x fr0
  rw [hA] at hneqA
  simp only [FR.ac, fr0] at hneqA
  obtain ⟨b9, hb9⟩ : ∃ b, pd x.pr = b := ⟨_, rfl⟩
  have HPd : Hid (∀ W : World, Calls Try.prog 61 #[.int .i64 x.pr] W fun e w' => e = .returned (.bool b9) ∧ W = w') := Lib.hid (fun W => hb9 ▸ rported_any x.pr W)
  have HK := Lib.hid hk
  have HA : Hid (ackH x = if (wi x.tl 255 && wi x.pr 255 && wi x.sp 65535 && wi x.dp 65535) = false then 2 else if b9 = false ∧ (x.sp ≠ 0 ∨ x.dp ≠ 0) then 3 else 0) := Lib.hid (by unfold ackH; rw [hb9])
  clear hsd hm hx hk hp hA hzA hzH h6 hb9
  unfold FR.cs
  have H12 := Lib.hid (rc_12 w x)
  have H21 := Lib.hid (rc_21 w x)
  go_enter Try.func36, Try.ntmps36
  go_upto_region 1 with fail
  go_cut [3, 4] (fun v3 v4 wx => ∃ B1 B2, v3 = .pointer (some ⟨B1, 0, none⟩) ∧ v4 = .pointer (some ⟨B2, 0, none⟩) ∧ RC w x B1 B2 wx)
  case first =>
    go_wp2_with fail
    go_region
    all_goals (go_wp2_with fail; go_meet)
    · exact ⟨_, _, rfl, rfl, H12.out⟩
    · exact ⟨_, _, rfl, rfl, H21.out⟩
  case rest =>
    obtain ⟨B1, B2, rfl, rfl, hrc⟩ := hcut
    clear H12 H21
    have HR := Lib.hid hrc
    have c0 := hrc.box.cell 0
    have c1 := hrc.box.cell 1
    have c2 := hrc.box.cell 2
    have a0 := hrc.ap.cell 0
    have a1 := hrc.ap.cell 1
    have a2 := hrc.ap.cell 2
    have a3 := hrc.ap.cell 3
    have a4 := hrc.ap.cell 4
    have h0 := hrc.hp.cell 0
    have h1 := hrc.hp.cell 1
    have h2 := hrc.hp.cell 2
    have h3 := hrc.hp.cell 3
    have h4 := hrc.hp.cell 4
    have h5 := hrc.hp.cell 5
    simp only [List.getElem?_toArray, List.getElem?_cons_zero, List.getElem?_cons_succ] at c0 c1 c2 a0 a1 a2 a3 a4 h0 h1 h2 h3 h4 h5
    clear hrc
    rw [HK.out] at c2
    have HWi : Hid (∀ n m : Int, wi n m = (decide (0 ≤ n) && decide (n ≤ m))) := Lib.hid (fun _ _ => rfl)
    by_cases n0 : x.tl < 0
    · have HA2 : Hid (ackH x = 2) := Lib.hid (by rw [HA.out, if_pos (by simp only [HWi.out]; simp; omega)])
      go_wp2_with (go_at_call 63; refine (HMc.out _).mono ?_; rintro e w8 ⟨rfl, rfl⟩)
      go_ret
      exact ⟨by rw [HE.out, HA2.out]; rfl, HR.out.lo⟩
    have n0' : decide (x.tl < 0) = false := decide_eq_false n0
    by_cases m0 : 255 < x.tl
    · have HA2 : Hid (ackH x = 2) := Lib.hid (by rw [HA.out, if_pos (by simp only [HWi.out]; simp; omega)])
      go_wp2_with (go_at_call 63; refine (HMc.out _).mono ?_; rintro e w8 ⟨rfl, rfl⟩)
      go_ret
      exact ⟨by rw [HE.out, HA2.out]; rfl, HR.out.lo⟩
    have m0' : decide (255 < x.tl) = false := decide_eq_false m0
    by_cases n1 : x.pr < 0
    · have HA2 : Hid (ackH x = 2) := Lib.hid (by rw [HA.out, if_pos (by simp only [HWi.out]; simp; omega)])
      go_wp2_with (go_at_call 63; refine (HMc.out _).mono ?_; rintro e w8 ⟨rfl, rfl⟩)
      go_ret
      exact ⟨by rw [HE.out, HA2.out]; rfl, HR.out.lo⟩
    have n1' : decide (x.pr < 0) = false := decide_eq_false n1
    by_cases m1 : 255 < x.pr
    · have HA2 : Hid (ackH x = 2) := Lib.hid (by rw [HA.out, if_pos (by simp only [HWi.out]; simp; omega)])
      go_wp2_with (go_at_call 63; refine (HMc.out _).mono ?_; rintro e w8 ⟨rfl, rfl⟩)
      go_ret
      exact ⟨by rw [HE.out, HA2.out]; rfl, HR.out.lo⟩
    have m1' : decide (255 < x.pr) = false := decide_eq_false m1
    by_cases n2 : x.sp < 0
    · have HA2 : Hid (ackH x = 2) := Lib.hid (by rw [HA.out, if_pos (by simp only [HWi.out]; simp; omega)])
      go_wp2_with (go_at_call 63; refine (HMc.out _).mono ?_; rintro e w8 ⟨rfl, rfl⟩)
      go_ret
      exact ⟨by rw [HE.out, HA2.out]; rfl, HR.out.lo⟩
    have n2' : decide (x.sp < 0) = false := decide_eq_false n2
    by_cases m2 : 65535 < x.sp
    · have HA2 : Hid (ackH x = 2) := Lib.hid (by rw [HA.out, if_pos (by simp only [HWi.out]; simp; omega)])
      go_wp2_with (go_at_call 63; refine (HMc.out _).mono ?_; rintro e w8 ⟨rfl, rfl⟩)
      go_ret
      exact ⟨by rw [HE.out, HA2.out]; rfl, HR.out.lo⟩
    have m2' : decide (65535 < x.sp) = false := decide_eq_false m2
    by_cases n3 : x.dp < 0
    · have HA2 : Hid (ackH x = 2) := Lib.hid (by rw [HA.out, if_pos (by simp only [HWi.out]; simp; omega)])
      go_wp2_with (go_at_call 63; refine (HMc.out _).mono ?_; rintro e w8 ⟨rfl, rfl⟩)
      go_ret
      exact ⟨by rw [HE.out, HA2.out]; rfl, HR.out.lo⟩
    have n3' : decide (x.dp < 0) = false := decide_eq_false n3
    by_cases m3 : 65535 < x.dp
    · have HA2 : Hid (ackH x = 2) := Lib.hid (by rw [HA.out, if_pos (by simp only [HWi.out]; simp; omega)])
      go_wp2_with (go_at_call 63; refine (HMc.out _).mono ?_; rintro e w8 ⟨rfl, rfl⟩)
      go_ret
      exact ⟨by rw [HE.out, HA2.out]; rfl, HR.out.lo⟩
    have m3' : decide (65535 < x.dp) = false := decide_eq_false m3
    have HA3 : Hid (ackH x = if b9 = false ∧ (x.sp ≠ 0 ∨ x.dp ≠ 0) then 3 else 0) := Lib.hid (by rw [HA.out, if_neg (by simp only [HWi.out]; simp; omega)])
    clear HA
    cases b9
    case true =>
      go_wp2_with (first | (go_at_call 63; refine (HMc.out _).mono ?_; rintro e w8 ⟨rfl, rfl⟩) | (go_at_call 61; refine (HPd.out _).mono ?_; rintro e w9 ⟨rfl, rfl⟩))
      go_ret
      exact ⟨by rw [HE.out, HA3.out]; rfl, HR.out.lo⟩
    obtain ⟨y1, hy1⟩ : ∃ c, (x.sp != 0) = c := ⟨_, rfl⟩
    obtain ⟨y2, hy2⟩ : ∃ c, (x.dp != 0) = c := ⟨_, rfl⟩
    have HA4 : Hid (ackH x = if (y1 || y2) then 3 else 0) := Lib.hid (by
      rw [HA3.out]
      have e1 : x.sp ≠ 0 ↔ y1 = true := by rw [← hy1]; simp
      have e2 : x.dp ≠ 0 ↔ y2 = true := by rw [← hy2]; simp
      simp only [e1, e2, Bool.or_eq_true, true_and])
    clear HA3
    cases y1
    · cases y2
      · go_wp2_with (first | (go_at_call 63; refine (HMc.out _).mono ?_; rintro e w8 ⟨rfl, rfl⟩) | (go_at_call 61; refine (HPd.out _).mono ?_; rintro e w9 ⟨rfl, rfl⟩))
        go_ret
        exact ⟨by rw [HE.out, HA4.out]; rfl, HR.out.lo⟩
      · go_wp2_with (first | (go_at_call 63; refine (HMc.out _).mono ?_; rintro e w8 ⟨rfl, rfl⟩) | (go_at_call 61; refine (HPd.out _).mono ?_; rintro e w9 ⟨rfl, rfl⟩))
        go_ret
        exact ⟨by rw [HE.out, HA4.out]; rfl, HR.out.lo⟩
    · go_wp2_with (first | (go_at_call 63; refine (HMc.out _).mono ?_; rintro e w8 ⟨rfl, rfl⟩) | (go_at_call 61; refine (HPd.out _).mono ?_; rintro e w9 ⟨rfl, rfl⟩))
      go_ret
      exact ⟨by rw [HE.out, HA4.out]; rfl, HR.out.lo⟩

theorem rcheck_any (x : FR) (hx : x.ty) (w : World) : Calls Try.prog 36 #[.agg x.cs] w fun e w' => e = .returned (.int .i64 (fchk x)) ∧ Below w.heap.size w w' := by
  by_cases hsd : big x.s = true ∨ big x.d = true
  · exact rchk_big x hx hsd w
  cases hm : mc x.s
  · by_cases hk : x.k < 0 ∨ 2 < x.k
    · exact rchk_kind x hx hsd hm hk w
    by_cases hp : perr x = 0
    · rcases perr_k hp with h | h | h
      · exact rchk_ok0 x hx hsd hm h hp w
      · exact rchk_ok1 x hx hsd hm h hp w
      · exact rchk_ok2 x hx hsd hm h hp w
    have hbad : (x.k ≠ 1 ∧ x.sameA fr0 = false) ∨ (x.k ≠ 2 ∧ x.sameH fr0 = false) := by
      by_cases h : (x.k ≠ 1 ∧ x.sameA fr0 = false) ∨ (x.k ≠ 2 ∧ x.sameH fr0 = false)
      · exact h
      · exact absurd (by unfold perr; rw [if_neg hk, if_neg h]) hp
    have h3 : x.k = 0 ∨ x.k = 1 ∨ x.k = 2 := by omega
    rcases h3 with h | h | h
    · exact rchk_bad0 x hx hsd hm h (by rcases hbad with h | h; exact .inl h.2; exact .inr h.2) w
    · exact rchk_bad1 x hx hsd hm h (by rcases hbad with h2 | h2; exact absurd h h2.1; exact h2.2) w
    · exact rchk_bad2 x hx hsd hm h (by rcases hbad with h2 | h2; exact h2.2; exact absurd h h2.1) w
  · exact rchk_mc x hx hsd hm w

end Go.Proofs.Ytgdfpmnbofnjfaa
