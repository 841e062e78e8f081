/- PacketNames: the walk; written by gen_pkz2.py. -/
import Derived.Test.YtnmbmogjgkgjjaaPkZ
import Derived.Deep.RegionHeld3
import Derived.Deep.DeepCutAuto
namespace Go.Proofs.Ytnmbmogjgkgjjaa
open Go.RowKit Go.Maps Go.Shelf
set_option linter.unusedVariables false
set_option linter.unusedSimpArgs false
set_option maxRecDepth 100000

set_option maxHeartbeats 4000000 in
theorem names7 (w : World) : Calls Try.prog 3 #[] w fun e w' => e = .returned (.bool true) ∧ Below w.heap.size w w' := by
  go_enter Try.func3, Try.ntmps3
  go_wp2_with fail
  refine (lives7 _).mono ?_
  rintro e w1 ⟨rfl, hb⟩
  have HL := Lib.hid hb
  clear hb
  go_wp2_with fail
  refine (bytes_yes xh xh_ty xh_chk _).mono ?_
  rintro e w2 ⟨b, c, rfl, hrow, hsz, hb⟩
  rw [xh_enc] at hrow ⊢
  have HP2 : Hid (PX w [] b c w2) := Lib.hid ⟨HL.out.trans (hb.mono HL.out.size), fun f hf => (by cases hf), hrow⟩
  have hcap : 42 ≤ c := by
    obtain ⟨_, _, _, _, h4, _⟩ := hrow
    exact h4
  have hc34 : (34 : Int) ≤ (c : Int) := by omega
  have hc41 : (41 : Int) ≤ (c : Int) := by omega
  rw [eb_len]
  clear hb hrow hsz HL hcap
  have hconv := px_hdr HP2.out.row
  go_upto_region 6 with fail
  clear hconv
  go_wp2_with (refine make_zeros _ rfl 13 (by decide) rfl (by kernel_rfl) ?_; intro w3 hr3 hb3; have HR3 := Lib.hid hr3; have HP3 := Lib.hid (HP2.out.below hb3); clear hr3 hb3 HP2)
  refine (read_z HR3.out (zero_byte 13) rz13).mono ?_
  rintro e w4 ⟨rfl, hb⟩
  have HQ4 := Lib.hid (HP3.out.below hb)
  clear hb HP3 HR3
  obtain ⟨W4, hW4⟩ : ∃ W', ((w4.alloc (.cells #[.int .u64 0, .int .u64 0, .int .i64 0, .int .i64 0, .int .u64 0, .int .u32 0, .int .u64 0, .int .u32 0, .int .u32 0, .int .u32 0, .int .i64 0, .int .i64 0, .int .i64 0, .int .i64 0, .int .u64 0] 36)).alloc (.cells #[.int .i64 4, .int .i64 13] 38)) = W' := ⟨_, rfl⟩
  have HP4 : Hid (PX w ((w4.heap.size + 1, 4, 13) :: []) b c W4) := Lib.hid (by rw [← hW4]; exact HQ4.out.lay _ _ 4 13)
  clear HQ4
  go_upto_region 7 with fail
  try rw [hW4]
  clear hW4
  go_wp2_with (refine make_zeros _ rfl 14 (by decide) rfl (by kernel_rfl) ?_; intro w5 hr5 hb5; have HR5 := Lib.hid hr5; have HP5 := Lib.hid (HP4.out.below hb5); clear hr5 hb5 HP4)
  refine (read_z HR5.out (zero_byte 14) rz14).mono ?_
  rintro e w6 ⟨rfl, hb⟩
  have HQ6 := Lib.hid (HP5.out.below hb)
  clear hb HP5 HR5
  obtain ⟨W6, hW6⟩ : ∃ W', ((w6.alloc (.cells #[.int .u64 0, .int .u64 0, .int .i64 0, .int .i64 0, .int .u64 0, .int .u32 0, .int .u64 0, .int .u32 0, .int .u32 0, .int .u32 0, .int .i64 0, .int .i64 0, .int .i64 0, .int .i64 0, .int .u64 0] 36)).alloc (.cells #[.int .i64 6, .int .i64 12] 38)) = W' := ⟨_, rfl⟩
  have HP6 : Hid (PX w ((w6.heap.size + 1, 6, 12) :: (w4.heap.size + 1, 4, 13) :: []) b c W6) := Lib.hid (by rw [← hW6]; exact HQ6.out.lay _ _ 6 12)
  clear HQ6
  go_upto_region 8 with fail
  try rw [hW6]
  clear hW6
  go_wp2_with fail
  refine (read_z (px_cut HP6.out.row) cut_byte rz41).mono ?_
  rintro e w7 ⟨rfl, hb⟩
  have HQ7 := Lib.hid (HP6.out.below hb)
  clear hb HP6
  obtain ⟨W7, hW7⟩ : ∃ W', ((w7.alloc (.cells #[.int .u64 0, .int .u64 0, .int .i64 0, .int .i64 0, .int .u64 0, .int .u32 0, .int .u64 0, .int .u32 0, .int .u32 0, .int .u32 0, .int .i64 0, .int .i64 0, .int .i64 0, .int .i64 0, .int .u64 0] 36)).alloc (.cells #[.int .i64 4, .int .i64 41] 38)) = W' := ⟨_, rfl⟩
  have HP7 : Hid (PX w ((w7.heap.size + 1, 4, 41) :: (w6.heap.size + 1, 6, 12) :: (w4.heap.size + 1, 4, 13) :: []) b c W7) := Lib.hid (by rw [← hW7]; exact HQ7.out.lay _ _ 4 41)
  clear HQ7
  go_upto_region 9 with fail
  try rw [hW7]
  clear hW7
  go_wp2_with fail
  refine (own_any _ EB _ (row_arr HP7.out.row eb_len) (by decide)).mono ?_
  rintro e w8 ⟨⟨h8, c8, rfl, hrow, hsz⟩, hb⟩
  rw [eb_len]
  have HB8 : Hid (Below W7.heap.size W7 (w8.alloc (.cells #[.int .u8 0] 5))) := Lib.hid (hb.alloc hb.size _)
  have HR8 : Hid (Row (w8.alloc (.cells #[.int .u8 0] 5)) h8 c8 EB) := Lib.hid (hrow.below ((Below.refl _ w8).alloc (Nat.le_refl _) _))
  have HN8 : Hid (Arr (w8.alloc (.cells #[.int .u8 0] 5)) (.slice (some ⟨w8.heap.size, 0, none⟩) 1 1) [0]) := Lib.hid (row_arr (Row.new w8 [0] _ rfl (by decide)) rfl)
  have HH8 := Lib.hid hsz
  clear hrow hsz hb
  go_wp2_with (refine app_arr HR8.out eb_len _ HN8.out (by decide) (by decide) (base := W7.heap.size) HH8.out HB8.out.size rfl (.tmp 53) (.tmp 54) rfl rfl rfl ?_; intro v9 w9 ha9 hb9; have HA9 := Lib.hid ha9; have HB9 := Lib.hid (HB8.out.trans hb9); clear ha9 hb9)
  have HP9 := Lib.hid (HP7.out.below HB9.out)
  clear HP7 HB8 HB9 HR8 HN8 HH8
  refine (read_z HA9.out more_byte rz43).mono ?_
  rintro e w9' ⟨rfl, hb⟩
  have HQ9 := Lib.hid (HP9.out.below hb)
  clear hb HP9 HA9
  obtain ⟨W9, hW9⟩ : ∃ W', ((w9'.alloc (.cells #[.int .u64 0, .int .u64 0, .int .i64 0, .int .i64 0, .int .u64 0, .int .u32 0, .int .u64 0, .int .u32 0, .int .u32 0, .int .u32 0, .int .i64 0, .int .i64 0, .int .i64 0, .int .i64 0, .int .u64 0] 36)).alloc (.cells #[.int .i64 5, .int .i64 42] 38)) = W' := ⟨_, rfl⟩
  have HP9 : Hid (PX w ((w9'.heap.size + 1, 5, 42) :: (w7.heap.size + 1, 4, 41) :: (w6.heap.size + 1, 6, 12) :: (w4.heap.size + 1, 4, 13) :: []) b c W9) := Lib.hid (by rw [← hW9]; exact HQ9.out.lay _ _ 5 42)
  clear HQ9
  go_upto_region 10 with fail
  try rw [hW9]
  clear hW9
  obtain ⟨i1, hi1, hy0, hy1⟩ := info_fr2
  go_upto_region 11 with (refine wpList_buildSlice rfl 42 36 12 _ rfl (flatF BADF).toArray i1 (.agg fr0.cs) Try.underlying42 hi1 hy0 (by rw [hy1]; decide) (by rw [hy1]; decide) (by rw [hy1, Array.toList_map]; exact fill_badf) ?_)
  have hh12 := Has.new W9 36 (flatF BADF).toArray
  have HP12 := Lib.hid (HP9.out.below ((Below.refl _ W9).alloc (Nat.le_refl _) (.cells (flatF BADF).toArray 36)))
  obtain ⟨W12, hW12⟩ : ∃ W, W9.alloc (.cells (flatF BADF).toArray 36) = W := ⟨_, rfl⟩
  have hs12 : W12.heap.size = W9.heap.size + 1 := by rw [← hW12, World.size_alloc]
  rw [hW12] at hh12 HP12 ⊢
  have HB12 := Lib.hid hh12
  have HS12 := Lib.hid hs12
  clear hh12 hW12 hs12 HP9 hi1 hy0 hy1
  go_upto_region 12 with (refine wpList_buildFlat rfl _ _ 12 _ rfl .i64 ERRF Try.underlying43 (by kernel_rfl) (by kernel_rfl) rfl (by decide) (by decide) rfl ?_)
  have hh13 := Has.new W12 24 (ERRF.map (Value.int .i64)).toArray
  have HP13 := Lib.hid (HP12.out.below ((Below.refl _ W12).alloc (Nat.le_refl _) (.cells (ERRF.map (Value.int .i64)).toArray 24)))
  have HB13 := Lib.hid (HB12.out.below ((Below.refl _ W12).alloc (Nat.le_refl _) (.cells (ERRF.map (Value.int .i64)).toArray 24)))
  obtain ⟨W13, hW13⟩ : ∃ W, W12.alloc (.cells (ERRF.map (Value.int .i64)).toArray 24) = W := ⟨_, rfl⟩
  rw [hW13] at hh13 HP13 HB13 ⊢
  have HE13 := Lib.hid hh13
  clear hh13 hW13 HP12 HB12
  obtain ⟨gE, hgE⟩ : ∃ g, W12.heap.size = g := ⟨_, rfl⟩
  obtain ⟨gB, hgB⟩ : ∃ g, W9.heap.size = g := ⟨_, rfl⟩
  rw [hgE] at HE13 ⊢
  rw [hgB] at HB13 ⊢
  clear hgE hgB
  go_wp2_with fail
  go_loopw [13] (fun i wr => ∃ k : Nat, k ≤ 12 ∧ i = .int .i64 k ∧ Below W13.heap.size W13 wr) (fun i _ => 12 - (intOf i).toNat)
  case atStart => exact ⟨0, by omega, rfl, Below.refl _ _⟩
  case round =>
    obtain ⟨k, hk, rfl, hbel⟩ := hrel
    have HBel := Lib.hid hbel
    clear hbel
    by_cases hlt : k < 12
    · obtain ⟨x, er, hx3, hty, hce, her⟩ := badf_at (has_rangeF HB13.out) k hlt
      have HX := Lib.hid hx3
      have HTy := Lib.hid hty
      have HCe := Lib.hid hce
      have HErr : Hid (∀ w', Below W13.heap.size W13 w' → w'.cell? ⟨gE, k, none⟩ = some (.int .i64 er)) := Lib.hid (fun w' hb => by
        rw [((HE13.out.below hb).cell k)]
        exact her)
      clear hx3 hty hce her
      go_wp2_with fail
      have HS0 : Hid (Below W13.heap.size W13 wr.drew) := Lib.hid HBel.out.drew
      refine wp_region_held_drew (S := fun w' => Below W13.heap.size W13 w') (by kernel_rfl) HS0.out (fun hHeld => ?_)
      refine wpAnyH_take (i := 0) (oi := { dst := some 86, op := Go.Op.move (Go.Operand.tmp 11), type := 42, pos := "law.go:34", after := #[], guard := none }) (v := ?_) rfl (by kernel_rfl) (by kernel_rfl) (by kernel_rfl) (fun _ _ _ h => h) (Or.inl ⟨by rfl, ?_⟩) (by assumption) ?_
      rotate_left
      · intro wS hSw
        clear hSw
        go_simp
        try with_reducible rfl
      try simp only [Act.put, List.setIfInBounds_toArray, List.set_cons_zero, List.set_cons_succ]
      refine wpAnyH_take (i := 1) (oi := { dst := some 87, op := Go.Op.move (Go.Operand.tmp 13), type := 3, pos := "law.go:34", after := #[], guard := none }) (v := ?_) rfl (by kernel_rfl) (by kernel_rfl) (by kernel_rfl) (fun _ _ _ h => h) (Or.inl ⟨by rfl, ?_⟩) (by assumption) ?_
      rotate_left
      · intro wS hSw
        clear hSw
        go_simp
        try with_reducible rfl
      try simp only [Act.put, List.setIfInBounds_toArray, List.set_cons_zero, List.set_cons_succ]
      refine wpAnyH_take (i := 2) (oi := { dst := some 88, op := Go.Op.indexAddr 42 (Go.Operand.tmp 86) (Go.Operand.tmp 87), type := 0, pos := "law.go:34", after := #[{ on := 0, ground := Go.Ground.data }, { on := 1, ground := Go.Ground.data }], guard := none }) (v := ?_) rfl (by kernel_rfl) (by kernel_rfl) (by kernel_rfl) (fun _ _ _ h => h) (Or.inl ⟨by rfl, ?_⟩) (by assumption) ?_
      rotate_left
      · intro wS hSw
        clear hSw
        go_simp
        try with_reducible rfl
      try simp only [Act.put, List.setIfInBounds_toArray, List.set_cons_zero, List.set_cons_succ]
      refine wpAnyH_take (i := 3) (oi := { dst := some 89, op := Go.Op.load 36 (Go.Operand.tmp 88), type := 36, pos := "law.go:34", after := #[{ on := 2, ground := Go.Ground.data }], guard := none }) (v := .agg x.cs) rfl (by kernel_rfl) (by kernel_rfl) (by kernel_rfl) (fun _ _ _ h => h) (yieldsIf_load_mid (by rfl) 36 (.tmp 88) rfl gB (k * 15) rfl x.l _ (fun _ h => rangeF_below HX.out h) Try.underlying36 rfl (fr_fit_l x)) (by assumption) ?_
      try simp only [Act.put, List.setIfInBounds_toArray, List.set_cons_zero, List.set_cons_succ]
      refine wpAnyH_take (i := 5) (oi := { dst := some 91, op := Go.Op.move (Go.Operand.tmp 12), type := 43, pos := "law.go:34", after := #[], guard := none }) (v := ?_) rfl (by kernel_rfl) (by kernel_rfl) (by kernel_rfl) (fun _ _ _ h => h) (Or.inl ⟨by rfl, ?_⟩) (by assumption) ?_
      rotate_left
      · intro wS hSw
        clear hSw
        go_simp
        try with_reducible rfl
      try simp only [Act.put, List.setIfInBounds_toArray, List.set_cons_zero, List.set_cons_succ]
      refine wpAnyH_take (i := 6) (oi := { dst := some 92, op := Go.Op.move (Go.Operand.tmp 13), type := 3, pos := "law.go:34", after := #[], guard := none }) (v := ?_) rfl (by kernel_rfl) (by kernel_rfl) (by kernel_rfl) (fun _ _ _ h => h) (Or.inl ⟨by rfl, ?_⟩) (by assumption) ?_
      rotate_left
      · intro wS hSw
        clear hSw
        go_simp
        try with_reducible rfl
      try simp only [Act.put, List.setIfInBounds_toArray, List.set_cons_zero, List.set_cons_succ]
      refine wpAnyH_take (i := 7) (oi := { dst := some 93, op := Go.Op.indexAddr 43 (Go.Operand.tmp 91) (Go.Operand.tmp 92), type := 0, pos := "law.go:34", after := #[{ on := 5, ground := Go.Ground.data }, { on := 6, ground := Go.Ground.data }], guard := none }) (v := ?_) rfl (by kernel_rfl) (by kernel_rfl) (by kernel_rfl) (fun _ _ _ h => h) (Or.inl ⟨by rfl, ?_⟩) (by assumption) ?_
      rotate_left
      · intro wS hSw
        clear hSw
        go_simp
        try with_reducible rfl
      try simp only [Act.put, List.setIfInBounds_toArray, List.set_cons_zero, List.set_cons_succ]
      refine wpAnyH_take (i := 8) (oi := { dst := some 94, op := Go.Op.load 24 (Go.Operand.tmp 93), type := 24, pos := "law.go:34", after := #[{ on := 7, ground := Go.Ground.data }], guard := none }) (v := ?_) rfl (by kernel_rfl) (by kernel_rfl) (by kernel_rfl) (fun _ _ _ h => h) (Or.inl ⟨by rfl, ?_⟩) (by assumption) ?_
      rotate_left
      · intro wS hSw
        have hSe := HErr.out wS hSw
        clear hSw
        go_simp
        try with_reducible rfl
      try simp only [Act.put, List.setIfInBounds_toArray, List.set_cons_zero, List.set_cons_succ]
      refine wpAnyH_ready (rs := [4]) (by kernel_rfl) (by simp) ?_
      refine AllReadyH.cons (o := { dst := some 90, op := Go.Op.call { callee := Go.Callee.value (Go.Operand.func 13), args := #[Go.Operand.tmp 89], argTypes := #[36] }, type := 24, pos := "law.go:34", after := #[{ on := 3, ground := Go.Ground.data }], guard := none }) rfl (fun K hK => ?_) AllReadyH.nil
      go_simp
      go_at_call 13
      refine (check_any x HTy.out _).mono ?_
      rintro en w20 ⟨rfl, hb20⟩
      rw [HCe.out]
      refine hK.out _ _ ?_ (fun hHeld => ?_)
      · exact HS0.out.trans (hb20.mono HS0.out.size)
      clear hK K
      try simp only [Act.put, List.setIfInBounds_toArray, List.set_cons_zero, List.set_cons_succ]
      refine wpAnyH_take (i := 9) (oi := { dst := some 95, op := Go.Op.binOp Go.BinOp.neq 24 (Go.Operand.tmp 90) (Go.Operand.tmp 94) 24, type := 4, pos := "law.go:34", after := #[{ on := 4, ground := Go.Ground.data }, { on := 8, ground := Go.Ground.data }], guard := none }) (v := ?_) rfl (by kernel_rfl) (by kernel_rfl) (by kernel_rfl) (fun _ _ _ h => h) (Or.inl ⟨by rfl, ?_⟩) (by assumption) ?_
      rotate_left
      · intro wS hSw
        clear hSw
        go_simp
        try with_reducible rfl
      try simp only [Act.put, List.setIfInBounds_toArray, List.set_cons_zero, List.set_cons_succ]
      refine wpAnyH_done (by kernel_rfl) ?_ _
      go_wp2_with fail
      go_roundw
      case rel => exact ⟨k + 1, by omega, by go_num, HS0.out.trans (hb20.mono HS0.out.size)⟩
      case measure => simp [intOf]; omega
    · obtain rfl : k = 12 := by omega
      have HNr := Lib.hid (HP13.out.below HBel.out)
      have f0 := HNr.out.all (w4.heap.size + 1, 4, 13) (by simp)
      have d00 := f0.cell 0
      have d01 := f0.cell 1
      have g0 := eql_ft 4 13 4 13
      have f1 := HNr.out.all (w6.heap.size + 1, 6, 12) (by simp)
      have d10 := f1.cell 0
      have d11 := f1.cell 1
      have g1 := eql_ft 6 12 6 12
      have f2 := HNr.out.all (w7.heap.size + 1, 4, 41) (by simp)
      have d20 := f2.cell 0
      have d21 := f2.cell 1
      have g2 := eql_ft 4 41 4 41
      have f3 := HNr.out.all (w9'.heap.size + 1, 5, 42) (by simp)
      have d30 := f3.cell 0
      have d31 := f3.cell 1
      have g3 := eql_ft 5 42 5 42
      simp only [beq_self_eq_true, Bool.and_self] at g0 g1 g2 g3
      have HBr := Lib.hid HNr.out.bel
      clear f0 f1 f2 f3
      go_wp2_with fail
      refine (sum_arr (.slice none 0 0) [] _ (.inl ⟨rfl, rfl⟩) (by decide) (by simp)).mono ?_
      rintro e w30 ⟨rfl, hb⟩
      rw [sum_nil]
      have HB30 := Lib.hid (HBr.out.trans (hb.mono HBr.out.size))
      clear hb HBr HNr
      go_wp2_with fail
      refine (sum_arr _ [1] _ (row_arr (Row.new w30 [1] _ rfl (by decide)) rfl) (by decide) (by decide)).mono ?_
      rintro e w31 ⟨rfl, hb⟩
      rw [sum_one]
      have HB31 : Hid (Below w.heap.size w w31) := Lib.hid ((HB30.out.alloc HB30.out.size _).trans (hb.mono (HB30.out.alloc HB30.out.size _).size))
      clear hb HB30
      go_wp2_with fail
      refine (ported_any 17 _).mono ?_
      rintro e w32 ⟨rfl, rfl⟩
      rw [pd17]
      go_wp2_with fail
      refine (ported_any 1 _).mono ?_
      rintro e w33 ⟨rfl, rfl⟩
      rw [pd1]
      go_wp2_with fail
      go_ret
      exact ⟨rfl, HB31.out⟩

end Go.Proofs.Ytnmbmogjgkgjjaa
