/- NlriNames: the walk. -/
import Derived.Test.YtjachhgcoioohaaNuB
import Derived.Deep.RegionHeld3
import Derived.Deep.DeepCutAuto
namespace Go.Proofs.Ytjachhgcoioohaa
open Go.RowKit Go.Maps Go.Shelf
set_option linter.unusedVariables false
set_option linter.unusedSimpArgs false
set_option maxRecDepth 100000

set_option maxHeartbeats 4000000 in
theorem names_any (w : World) : Calls Try.prog 3 #[] w (Fin4 w) := by
  obtain ⟨i0, hi0, hz0, hz1, hz2⟩ := info_parts info_u8
  go_enter Try.func3, Try.ntmps3
  go_wp2_with fail
  refine (lives4 _).mono ?_
  rintro en w1 ⟨rfl, hb1⟩
  go_wp2_with fail
  refine (bytes_yes xMac xMac_ty xMac_chk _).mono ?_
  rintro en w2 ⟨b2, c2, rfl, hrow2, hsz2, hb2⟩
  rw [wi_enc] at hrow2 ⊢
  have hn2 : NX w [] (.slice (some ⟨b2, 0, none⟩) 35 c2) wi w2 := ⟨hb1.trans (hb2.mono hb1.size), fun f hf => (by cases hf), .inr ⟨_, c2, rfl, Sl.at_ hrow2.all⟩⟩
  have HN2 := Lib.hid hn2
  have hl35 : wi.length = 35 := by decide
  rw [hl35]
  clear hb1 hb2 hrow2 hsz2 hn2
  go_wp2_with fail
  refine (times_zero _).mono ?_
  rintro en w3 ⟨rfl, hb3⟩
  have HN3 := Lib.hid (HN2.out.below hb3)
  clear hb3
  have hWL : (({ data := #[2, 33] } : ByteArray) ++ { data := (zs 22).toArray } ++ { data := #[48, 2, 0, 0, 0, 0, 7, 0, 0, 0, 100] }) = ⟨WL.toArray⟩ := by decide
  go_wp2_with fail
  clear hWL
  refine (read_arr _ [3, 17, 0] _ (arr_lit (l := [3, 17, 0]) (Has.new _ _ _) rfl) ⟨_, _, _, rfl, Nat.le_refl _, by decide⟩ (by simp) (by decide)).mono ?_
  rintro en w4 ⟨v4, rfl, hown4, hb4⟩
  rw [rp1] at hown4 ⊢
  obtain ⟨A4, c4, rfl⟩ := own_form hown4
  have HN4 := Lib.hid ((HN3.out.below ((Below.refl _ w3).alloc (Nat.le_refl _) _)).below hb4)
  clear hown4 hb4 HN3
  go_wp2_with fail
  have hh5 : Has ((w4.alloc (.cells #[.int .i64 4, .int .i64 0] 40)).alloc (.cells #[.int .u8 6, .int .u8 0] 5)) (w4.heap.size + 1) 5 (u8s [6, 0]).toArray := by
    have h := Has.new (w4.alloc (.cells #[.int .i64 4, .int .i64 0] 40)) 5 (u8s [6, 0]).toArray
    rw [World.size_alloc] at h
    exact h
  refine (read_arr _ [6, 0] _ (arr_lit hh5 rfl) ⟨_, _, _, rfl, Nat.le_refl _, by decide⟩ (by simp) (by decide)).mono ?_
  rintro en w5 ⟨v5, rfl, hown5, hb5⟩
  rw [rp2] at hown5 ⊢
  obtain ⟨A5, c5, rfl⟩ := own_form hown5
  have HN5 := Lib.hid (((HN4.out.lay 4 0).below ((Below.refl _ (w4.alloc (.cells #[.int .i64 4, .int .i64 0] 40))).alloc (Nat.le_refl _) _)).below hb5)
  clear hown5 hb5 HN4 hh5
  go_wp2_with fail
  have hh6 : Has ((w5.alloc (.cells #[.int .i64 6, .int .i64 0] 40)).alloc (.cells #[.int .u8 3, .int .u8 0] 5)) (w5.heap.size + 1) 5 (u8s [3, 0]).toArray := by
    have h := Has.new (w5.alloc (.cells #[.int .i64 6, .int .i64 0] 40)) 5 (u8s [3, 0]).toArray
    rw [World.size_alloc] at h
    exact h
  refine (read_arr _ [3, 0] _ (arr_lit hh6 rfl) ⟨_, _, _, rfl, Nat.le_refl _, by decide⟩ (by simp) (by decide)).mono ?_
  rintro en w6 ⟨v6, rfl, hown6, hb6⟩
  rw [rp3] at hown6 ⊢
  obtain ⟨A6, c6, rfl⟩ := own_form hown6
  have HN6 := Lib.hid (((HN5.out.lay 6 0).below ((Below.refl _ (w5.alloc (.cells #[.int .i64 6, .int .i64 0] 40))).alloc (Nat.le_refl _) _)).below hb6)
  clear hown6 hb6 HN5 hh6
  obtain ⟨cp, hcp1, hcp2, C, hC, hCt, hconv⟩ := bytes_str (w6.alloc (.cells #[.int .i64 3, .int .i64 0] 40)) WL
  have hwl : WL.length = 35 := by decide
  rw [hwl] at hcp1 hcp2 hCt hconv
  have hcp3 := hcp2 (by decide)
  have HC := Lib.hid (And.intro hC (And.intro hCt (And.intro hcp1 hcp3)))
  clear hwl hC hCt hcp1 hcp2 hcp3
  go_wp2_with (at_builtin; refine app_one (w0 := w6.alloc (.cells #[.int .i64 3, .int .i64 0] 40)) (xs := wi) HC.out.1 HC.out.2.1 HC.out.2.2.1 HC.out.2.2.2 (by decide) rfl (.tmp 50) (.tmp 51) rfl 35 rfl (by go_simp) (by go_simp) ?_; intro ad7 c7 w7 harr7 hcc7 hcm7 hb7; have HA7 := Lib.hid harr7; have HN7 := Lib.hid ((HN6.out.lay 3 0).below hb7); clear harr7 hb7)
  refine (read_arr _ (wi ++ [1]) _ HA7.out ⟨_, _, _, rfl, hcc7, hcm7⟩ (by decide) wi1_byte).mono ?_
  rintro en w8 ⟨v8, rfl, hown8, hb8⟩
  rw [rp4] at hown8 ⊢
  obtain ⟨A8, c8, rfl⟩ := own_form hown8
  have HN8 := Lib.hid (HN7.out.below hb8)
  clear hown8 hb8 HN7 HN6 HA7 hcc7 hcm7 HC hconv
  obtain ⟨cq, hcq1, hcq2, D, hD, hDt, hconv⟩ := bytes_str (w8.alloc (.cells #[.int .i64 4, .int .i64 35] 40)) WL
  have hwl : WL.length = 35 := by decide
  rw [hwl] at hcq1 hcq2 hDt hconv
  have hcq3 := hcq2 (by decide)
  unfold maxLen at hcq3
  have HA9 : Hid (Arr ((w8.alloc (.cells #[.int .i64 4, .int .i64 35] 40)).alloc (.cells D 5 (cq, cq + 1))).drew (.slice (some ⟨w8.heap.size + 1, 0, none⟩) 35 cq) wi) := Lib.hid (by
    have h := text_arr (w0 := w8.alloc (.cells #[.int .i64 4, .int .i64 35] 40)) (cp := cq) (xs := wi) 35 rfl hDt
    rw [World.size_alloc] at h
    exact h)
  clear hwl hD hDt hcq2
  go_wp2_with fail
  refine (read_arr _ wi _ HA9.out ⟨_, _, _, rfl, hcq1, hcq3⟩ (by decide) wi_byte).mono ?_
  rintro en w9 ⟨v9, rfl, hown9, hb9⟩
  rw [rp5] at hown9 ⊢
  have hn9 := own_nls hown9
  obtain ⟨A9, c9, rfl⟩ := own_form hown9
  obtain ⟨bL, oL, cL, hvL, hrL⟩ : ∃ b o c, (Value.slice A9 1 c9) = .slice (some ⟨b, o, none⟩) 1 c ∧ w9.rangeAt b o (flatN [xMac]) := by
    rcases hn9 with ⟨_, h1⟩ | h1
    · cases h1
    · exact h1
  injection hvL with hvL _ hcL
  subst hvL hcL
  have HN9 := Lib.hid (((HN8.out.lay 4 35).below (((Below.refl _ (w8.alloc (.cells #[.int .i64 4, .int .i64 35] 40))).alloc (Nat.le_refl _) (.cells D 5 (cq, cq + 1))).drew)).below hb9)
  have HL9 := Lib.hid hrL
  clear hown9 hb9 hn9 hrL HA9 HN8 hconv hcq1 hcq3
  obtain ⟨N9, hN9⟩ : ∃ N, rdn 184483841 5 = N := ⟨_, rfl⟩
  have hrdo := rdo_a
  rw [hN9] at hrdo
  go_wp2_with fail
  refine (rd_any 184483841 5 (by omega) (by omega) _).mono ?_
  rintro en w10 ⟨rfl, rfl⟩
  rw [hN9]
  clear hN9
  go_wp2_with fail
  refine (rdof_any N9 _).mono ?_
  rintro en w11 ⟨rfl, rfl⟩
  rw [hrdo]
  clear hrdo
  go_wp2_with fail
  refine (rdof_any 5 _).mono ?_
  rintro en w12 ⟨rfl, rfl⟩
  rw [rdo_b]
  obtain ⟨W9, hW9⟩ : ∃ W, w9.alloc (.cells #[.int .i64 0, .int .i64 0] 40) = W := ⟨_, rfl⟩
  have HNw := Lib.hid (HN9.out.lay 0 0)
  have HLw := Lib.hid (range_below HL9.out ((Below.refl _ w9).alloc (Nat.le_refl _) (.cells #[.int .i64 0, .int .i64 0] 40)))
  rw [hW9] at HNw HLw
  go_upto_region 12 with fail
  clear hW9 HN9 HL9
  obtain ⟨i1, hi1, hy0, hy1, hy2⟩ := info_parts info_nlb
  go_upto_region 13 with (first
    | (refine wpList_buildSlice rfl 38 36 10 _ rfl (flatN BAD).toArray i1 nl0.v Try.underlying38 hi1 hy0 (by rw [hy1]; decide) (by rw [hy1]; decide) (by rw [hy1, Array.toList_map]; exact fill_bad) ?_))
  have hh12 := Has.new W9 36 (flatN BAD).toArray
  have HN12 := Lib.hid (HNw.out.below ((Below.refl _ W9).alloc (Nat.le_refl _) (.cells (flatN BAD).toArray 36)))
  have HL12 := Lib.hid (range_below HLw.out ((Below.refl _ W9).alloc (Nat.le_refl _) (.cells (flatN BAD).toArray 36)))
  obtain ⟨W12, hW12⟩ : ∃ W, W9.alloc (.cells (flatN BAD).toArray 36) = W := ⟨_, rfl⟩
  have hs12 : W12.heap.size = W9.heap.size + 1 := by rw [← hW12, World.size_alloc]
  rw [hW12] at hh12 HN12 HL12 ⊢
  have HB12 := Lib.hid hh12
  have HS12 := Lib.hid hs12
  clear hh12 hW12 hs12 HNw HLw
  go_upto_region 14 with (refine wpList_buildFlat rfl _ _ 10 _ rfl .i64 ERR Try.underlying47 (by kernel_rfl) (by kernel_rfl) rfl (by decide) (by decide) rfl ?_)
  have hh13 := Has.new W12 24 (ERR.map (Value.int .i64)).toArray
  have HN13 := Lib.hid (HN12.out.below ((Below.refl _ W12).alloc (Nat.le_refl _) (.cells (ERR.map (Value.int .i64)).toArray 24)))
  have HL13 := Lib.hid (range_below HL12.out ((Below.refl _ W12).alloc (Nat.le_refl _) (.cells (ERR.map (Value.int .i64)).toArray 24)))
  have HB13 := Lib.hid (HB12.out.below ((Below.refl _ W12).alloc (Nat.le_refl _) (.cells (ERR.map (Value.int .i64)).toArray 24)))
  obtain ⟨W13, hW13⟩ : ∃ W, W12.alloc (.cells (ERR.map (Value.int .i64)).toArray 24) = W := ⟨_, rfl⟩
  rw [hW13] at hh13 HN13 HL13 HB13 ⊢
  have HE13 := Lib.hid hh13
  clear hh13 hW13 HN12 HL12 HB12
  obtain ⟨gE, hgE⟩ : ∃ g, W12.heap.size = g := ⟨_, rfl⟩
  obtain ⟨gB, hgB⟩ : ∃ g, W9.heap.size = g := ⟨_, rfl⟩
  rw [hgE] at HE13 ⊢
  rw [hgB] at HB13 ⊢
  clear hgE hgB
  go_wp2_with fail
  go_loopw [22] (fun i wr => ∃ k : Nat, k ≤ 10 ∧ i = .int .i64 k ∧ Below W13.heap.size W13 wr) (fun i _ => 10 - (intOf i).toNat)
  case atStart => exact ⟨0, by omega, rfl, Below.refl _ _⟩
  case round =>
    obtain ⟨k, hk, rfl, hbel⟩ := hrel
    have HBel := Lib.hid hbel
    clear hbel
    by_cases hlt : k < 10
    · obtain ⟨x, er, hx3, hwf, hce, her⟩ := bad_at (has_range HB13.out) k hlt
      have HX := Lib.hid hx3
      have HWf := Lib.hid hwf
      have HCe := Lib.hid hce
      have HErr : Hid (∀ w', Below W13.heap.size W13 w' → w'.cell? ⟨gE, k, none⟩ = some (.int .i64 er)) := Lib.hid (fun w' hb => by
        rw [((HE13.out.below hb).cell k)]
        exact her)
      clear hx3 hwf hce her
      go_wp2_with fail
      have HS0 : Hid (Below W13.heap.size W13 wr.drew) := Lib.hid HBel.out.drew
      refine wp_region_held_drew (S := fun w' => Below W13.heap.size W13 w') (by kernel_rfl) HS0.out (fun hHeld => ?_)
      refine wpAnyH_take (i := 0) (oi := { dst := some 93, op := Go.Op.move (Go.Operand.tmp 20), type := 38, pos := "law.go:36", after := #[], guard := none }) (v := ?_) rfl (by kernel_rfl) (by kernel_rfl) (by kernel_rfl) (fun _ _ _ h => h) (Or.inl ⟨by rfl, ?_⟩) (by assumption) ?_
      rotate_left
      · intro wS hSw
        clear hSw
        go_simp
        try with_reducible rfl
      try simp only [Act.put, List.setIfInBounds_toArray, List.set_cons_zero, List.set_cons_succ]
      refine wpAnyH_take (i := 1) (oi := { dst := some 94, op := Go.Op.move (Go.Operand.tmp 22), type := 3, pos := "law.go:36", after := #[], guard := none }) (v := ?_) rfl (by kernel_rfl) (by kernel_rfl) (by kernel_rfl) (fun _ _ _ h => h) (Or.inl ⟨by rfl, ?_⟩) (by assumption) ?_
      rotate_left
      · intro wS hSw
        clear hSw
        go_simp
        try with_reducible rfl
      try simp only [Act.put, List.setIfInBounds_toArray, List.set_cons_zero, List.set_cons_succ]
      refine wpAnyH_take (i := 2) (oi := { dst := some 95, op := Go.Op.indexAddr 38 (Go.Operand.tmp 93) (Go.Operand.tmp 94), type := 0, pos := "law.go:36", after := #[{ on := 0, ground := Go.Ground.data }, { on := 1, ground := Go.Ground.data }], guard := none }) (v := ?_) rfl (by kernel_rfl) (by kernel_rfl) (by kernel_rfl) (fun _ _ _ h => h) (Or.inl ⟨by rfl, ?_⟩) (by assumption) ?_
      rotate_left
      · intro wS hSw
        clear hSw
        go_simp
        try with_reducible rfl
      try simp only [Act.put, List.setIfInBounds_toArray, List.set_cons_zero, List.set_cons_succ]
      refine wpAnyH_take (i := 3) (oi := { dst := some 96, op := Go.Op.load 36 (Go.Operand.tmp 95), type := 36, pos := "law.go:36", after := #[{ on := 2, ground := Go.Ground.data }], guard := none }) (v := .agg x.cs) rfl (by kernel_rfl) (by kernel_rfl) (by kernel_rfl) (fun _ _ _ h => h) (yieldsIf_load_mid (by rfl) 36 (.tmp 95) rfl gB (k * 21) rfl x.l _ (fun _ h => range_below HX.out h) Try.underlying36 rfl (nl_fit_l x)) (by assumption) ?_
      try simp only [Act.put, List.setIfInBounds_toArray, List.set_cons_zero, List.set_cons_succ]
      refine wpAnyH_take (i := 5) (oi := { dst := some 98, op := Go.Op.move (Go.Operand.tmp 21), type := 47, pos := "law.go:36", after := #[], guard := none }) (v := ?_) rfl (by kernel_rfl) (by kernel_rfl) (by kernel_rfl) (fun _ _ _ h => h) (Or.inl ⟨by rfl, ?_⟩) (by assumption) ?_
      rotate_left
      · intro wS hSw
        clear hSw
        go_simp
        try with_reducible rfl
      try simp only [Act.put, List.setIfInBounds_toArray, List.set_cons_zero, List.set_cons_succ]
      refine wpAnyH_take (i := 6) (oi := { dst := some 99, op := Go.Op.move (Go.Operand.tmp 22), type := 3, pos := "law.go:36", after := #[], guard := none }) (v := ?_) rfl (by kernel_rfl) (by kernel_rfl) (by kernel_rfl) (fun _ _ _ h => h) (Or.inl ⟨by rfl, ?_⟩) (by assumption) ?_
      rotate_left
      · intro wS hSw
        clear hSw
        go_simp
        try with_reducible rfl
      try simp only [Act.put, List.setIfInBounds_toArray, List.set_cons_zero, List.set_cons_succ]
      refine wpAnyH_take (i := 7) (oi := { dst := some 100, op := Go.Op.indexAddr 47 (Go.Operand.tmp 98) (Go.Operand.tmp 99), type := 0, pos := "law.go:36", after := #[{ on := 5, ground := Go.Ground.data }, { on := 6, ground := Go.Ground.data }], guard := none }) (v := ?_) rfl (by kernel_rfl) (by kernel_rfl) (by kernel_rfl) (fun _ _ _ h => h) (Or.inl ⟨by rfl, ?_⟩) (by assumption) ?_
      rotate_left
      · intro wS hSw
        clear hSw
        go_simp
        try with_reducible rfl
      try simp only [Act.put, List.setIfInBounds_toArray, List.set_cons_zero, List.set_cons_succ]
      refine wpAnyH_take (i := 8) (oi := { dst := some 101, op := Go.Op.load 24 (Go.Operand.tmp 100), type := 24, pos := "law.go:36", after := #[{ on := 7, ground := Go.Ground.data }], guard := none }) (v := ?_) rfl (by kernel_rfl) (by kernel_rfl) (by kernel_rfl) (fun _ _ _ h => h) (Or.inl ⟨by rfl, ?_⟩) (by assumption) ?_
      rotate_left
      · intro wS hSw
        have hSe := HErr.out wS hSw
        clear hSw
        go_simp
        try with_reducible rfl
      try simp only [Act.put, List.setIfInBounds_toArray, List.set_cons_zero, List.set_cons_succ]
      refine wpAnyH_ready (rs := [4]) (by kernel_rfl) (by simp) ?_
      refine AllReadyH.cons (o := { dst := some 97, op := Go.Op.call { callee := Go.Callee.value (Go.Operand.func 15), args := #[Go.Operand.tmp 96], argTypes := #[36] }, type := 24, pos := "law.go:36", after := #[{ on := 3, ground := Go.Ground.data }], guard := none }) rfl (fun K hK => ?_) AllReadyH.nil
      go_simp
      go_at_call 15
      refine (check_any x HWf.out _).mono ?_
      rintro en w20 ⟨rfl, hb20⟩
      rw [HCe.out]
      refine hK.out _ _ ?_ (fun hHeld => ?_)
      · exact HS0.out.trans (hb20.mono HS0.out.size)
      clear hK K
      try simp only [Act.put, List.setIfInBounds_toArray, List.set_cons_zero, List.set_cons_succ]
      refine wpAnyH_take (i := 9) (oi := { dst := some 102, op := Go.Op.binOp Go.BinOp.neq 24 (Go.Operand.tmp 97) (Go.Operand.tmp 101) 24, type := 4, pos := "law.go:36", after := #[{ on := 4, ground := Go.Ground.data }, { on := 8, ground := Go.Ground.data }], guard := none }) (v := ?_) rfl (by kernel_rfl) (by kernel_rfl) (by kernel_rfl) (fun _ _ _ h => h) (Or.inl ⟨by rfl, ?_⟩) (by assumption) ?_
      rotate_left
      · intro wS hSw
        clear hSw
        go_simp
        try with_reducible rfl
      try simp only [Act.put, List.setIfInBounds_toArray, List.set_cons_zero, List.set_cons_succ]
      refine wpAnyH_done (by kernel_rfl) ?_ _
      go_wp2_with fail
      go_roundw
      case rel => exact ⟨k + 1, by omega, by go_num, HS0.out.trans (hb20.mono HS0.out.size)⟩
      case measure => simp [intOf]; omega
    · obtain rfl : k = 10 := by omega
      have HNr := Lib.hid (HN13.out.below HBel.out)
      have hconv : (convert 23 9 (.slice (some ⟨b2, 0, none⟩) 35 c2)).run Try.prog wr = .ok (.string ⟨WL.toArray⟩) wr := str_arr WL (by decide) (by decide) HNr.out.b
      have f1 := HNr.out.all (w4.heap.size, 4, 0) (by simp)
      have f2 := HNr.out.all (w5.heap.size, 6, 0) (by simp)
      have f3 := HNr.out.all (w6.heap.size, 3, 0) (by simp)
      have f4 := HNr.out.all (w8.heap.size, 4, 35) (by simp)
      have f5 := HNr.out.all (w9.heap.size, 0, 0) (by simp)
      have d10 := f1.cell 0
      have d11 := f1.cell 1
      have d20 := f2.cell 0
      have d21 := f2.cell 1
      have d30 := f3.cell 0
      have d31 := f3.cell 1
      have d40 := f4.cell 0
      have d41 := f4.cell 1
      have d50 := f5.cell 0
      have d51 := f5.cell 1
      have g1 := eql_ft 4 0 4 0
      have g2 := eql_ft 6 0 6 0
      have g3 := eql_ft 3 0 3 0
      have g4 := eql_ft 4 35 4 35
      have g5 := eql_ft 0 0 0 0
      simp only [beq_self_eq_true, Bool.and_self] at g1 g2 g3 g4 g5
      have dl := (range_below HL13.out HBel.out) 19 (.int .u32 100) rfl
      clear f1 f2 f3 f4 f5
      go_wp2_with fail
      go_ret
      exact ⟨rfl, HNr.out.bel⟩

end Go.Proofs.Ytjachhgcoioohaa
