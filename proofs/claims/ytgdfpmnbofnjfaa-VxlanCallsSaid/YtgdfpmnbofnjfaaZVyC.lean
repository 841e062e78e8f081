/- The document's entropy; written by gen_vyc.py. -/
import Derived.Test.YtgdfpmnbofnjfaaZVyA
import Derived.Test.YtgdfpmnbofnjfaaZVxG
import Derived.Deep.RegionHeld3
import Derived.Deep.CutBlock
namespace Go.Proofs.Ytgdfpmnbofnjfaa
open Go.RowKit Go.Shelf
set_option linter.unusedVariables false
set_option linter.unusedSimpArgs false
set_option maxRecDepth 100000

theorem be_mod48 (v : Int) : be (v % 281474976710656) 6 = be v 6 := by
  show [v % 281474976710656 / 256 ^ 5 % 256, v % 281474976710656 / 256 ^ 4 % 256, v % 281474976710656 / 256 ^ 3 % 256, v % 281474976710656 / 256 ^ 2 % 256, v % 281474976710656 / 256 ^ 1 % 256, v % 281474976710656 / 256 ^ 0 % 256] = [v / 256 ^ 5 % 256, v / 256 ^ 4 % 256, v / 256 ^ 3 % 256, v / 256 ^ 2 % 256, v / 256 ^ 1 % 256, v / 256 ^ 0 % 256]
  have e5 : (256 : Int) ^ 5 = 1099511627776 := by decide
  have e4 : (256 : Int) ^ 4 = 4294967296 := by decide
  have e3 : (256 : Int) ^ 3 = 16777216 := by decide
  have e2 : (256 : Int) ^ 2 = 65536 := by decide
  have e1 : (256 : Int) ^ 1 = 256 := by decide
  have e0 : (256 : Int) ^ 0 = 1 := by decide
  rw [e5, e4, e3, e2, e1, e0]
  simp only [List.cons.injEq, and_true]
  refine ⟨?_, ?_, ?_, ?_, ?_, ?_⟩ <;> omega
theorem be_mod64 (v : Int) : be (v % 18446744073709551616) 2 = be (v % 65536) 2 := by
  show [v % 18446744073709551616 / 256 ^ 1 % 256, v % 18446744073709551616 / 256 ^ 0 % 256] = [v % 65536 / 256 ^ 1 % 256, v % 65536 / 256 ^ 0 % 256]
  have e1 : (256 : Int) ^ 1 = 256 := by decide
  have e0 : (256 : Int) ^ 0 = 1 := by decide
  rw [e1, e0]
  simp only [List.cons.injEq, and_true]
  refine ⟨?_, ?_⟩ <;> omega
theorem be_one (v : Int) : be (v % 256) 1 = [v % 256] := by
  show [v % 256 / 256 ^ 0 % 256] = [v % 256]
  have e0 : (256 : Int) ^ 0 = 1 := by decide
  rw [e0]
  simp only [List.cons.injEq, and_true]
  omega

set_option maxHeartbeats 8000000 in
theorem rent_no (x : FR) (hx : x.ty) (hk : x.k ≠ 2) (w : World) : Calls Try.prog 20 #[.agg x.cs] w fun e w' => e = .returned (.int .i64 (ent x)) ∧ Below w.heap.size w w' := by
  obtain ⟨hs0, hs1⟩ := hx.s
  obtain ⟨hd0, hd1⟩ := hx.d
  obtain ⟨hhs0, hhs1⟩ := hx.hs
  obtain ⟨hhd0, hhd1⟩ := hx.hd
  obtain ⟨k8, hk8⟩ : ∃ p, IntKind.u8.wrap x.k = p := ⟨_, rfl⟩
  have f8 : x.k % 256 = k8 := hk8
  obtain ⟨P1, hP1⟩ : ∃ P : List Int, [] ++ be x.s 6 = P := ⟨_, rfl⟩
  have hlP1 : P1.length ≤ 40 := by rw [← hP1]; simp [be_length]; try omega
  obtain ⟨P2, hP2⟩ : ∃ P : List Int, P1 ++ be x.d 6 = P := ⟨_, rfl⟩
  have hlP2 : P2.length ≤ 80 := by rw [← hP2]; simp [be_length]; try omega
  obtain ⟨P3, hP3⟩ : ∃ P : List Int, P2 ++ [k8] = P := ⟨_, rfl⟩
  have hlP3 : P3.length ≤ 120 := by rw [← hP3]; simp [be_length]; try omega
  have HFl : Hid (P3 = flowP x) := Lib.hid (by
    unfold flowP
    rw [if_neg hk, be_mod48, be_mod48, be_one, f8, ← hP3, ← hP2, ← hP1]
    simp only [List.nil_append, List.append_assoc])
  have hne : (x.k == 2) = false := by simpa using hk
  clear f8 hk
  have HP1 := Lib.hid hP1
  have HLP1 := Lib.hid hlP1
  have HP2 := Lib.hid hP2
  have HLP2 := Lib.hid hlP2
  have HP3 := Lib.hid hP3
  have HLP3 := Lib.hid hlP3
  clear hP1 hlP1 hP2 hlP2 hP3 hlP3
  obtain ⟨hf0, hf1⟩ := fnv_bd (flowP x)
  obtain ⟨h, hh⟩ : ∃ h, fnv (flowP x) = h := ⟨_, rfl⟩
  have hw1 : IntKind.i64.wrap (h % 16384) = h % 16384 := IntWalk.i64_in _ (by omega)
  rw [hh] at hf0 hf1
  have hm0 : 0 ≤ h % 16384 := by omega
  have hm1 : h % 16384 < 16384 := by omega
  have HHs : Hid (∀ (v : Value) (W : World), Arr W v (flowP x) → Calls Try.prog 18 #[v] W fun e w' => e = .returned (.int .u32 h) ∧ W = w') := Lib.hid (fun v W ha => hh ▸ rhash_arr v (flowP x) W ha (by rw [flow_len]; decide) (flow_byte x))
  have HEnt : Hid (ent x = 49152 + h % 16384) := Lib.hid (by unfold ent; rw [hh])
  rw [HEnt.out]
  clear hx hh
  unfold FR.cs
  obtain ⟨W1, hW1⟩ : ∃ W1, w.alloc (.cells #[.int .u64 x.s, .int .u64 x.d, .int .i64 x.k, .int .i64 x.op, .int .u64 x.sm, .int .u32 x.si, .int .u64 x.tm, .int .u32 x.ti, .int .u32 x.hs, .int .u32 x.hd, .int .i64 x.tl, .int .i64 x.pr, .int .i64 x.sp, .int .i64 x.dp, .int .u64 x.da] 32) = W1 := ⟨_, rfl⟩
  have HQ : Hid (QB w x [] none 0 0 [] W1) := Lib.hid (hW1 ▸ QB.start ((Below.refl _ w).alloc (Nat.le_refl _) _) (Has.new w _ _))
  go_enter Try.func20, Try.ntmps20
  go_upto_region 1 with fail
  try rw [hW1]
  clear hW1
  go_cut [3] (fun v3 wx => ∃ A c l, v3 = .slice A (P3).length c ∧ QB w x l A (P3).length c (P3) wx)
  case first =>
    have HQ := Lib.hid (HQ.out.below (Below.refl _ _).drew)
    refine wp_region_held_drew (S := (fun w' => w'.cell? ⟨w.heap.size, 0, none⟩ = some (.int .u64 x.s) ∧ w'.cell? ⟨w.heap.size, 1, none⟩ = some (.int .u64 x.d) ∧ w'.cell? ⟨w.heap.size, 2, none⟩ = some (.int .i64 x.k) ∧ True)) (by kernel_rfl) (⟨HQ.out.box.cell 0, HQ.out.box.cell 1, HQ.out.box.cell 2, trivial⟩) (fun hHeld => ?_)
    refine wpAnyH_take (i := 0) (oi := { dst := some 4, op := Go.Op.fieldAddr 32 (Go.Operand.tmp 1) 0, type := 0, pos := "ref.go:63", after := #[], guard := none }) (v := ?_) rfl (by kernel_rfl) (by kernel_rfl) (by kernel_rfl) (fun _ _ _ h => h) (Or.inl ⟨by rfl, ?_⟩) (by assumption) ?_
    rotate_left
    · intro wS hSw
      try dsimp only at hSw
      go_split_ands
      go_simp
      try with_reducible rfl
    try simp only [Act.put, List.setIfInBounds_toArray, List.set_cons_zero, List.set_cons_succ]
    refine wpAnyH_take (i := 1) (oi := { dst := some 5, op := Go.Op.load 26 (Go.Operand.tmp 4), type := 26, pos := "ref.go:63", after := #[{ on := 0, ground := Go.Ground.data }], guard := none }) (v := ?_) rfl (by kernel_rfl) (by kernel_rfl) (by kernel_rfl) (fun _ _ _ h => h) (Or.inl ⟨by rfl, ?_⟩) (by assumption) ?_
    rotate_left
    · intro wS hSw
      try dsimp only at hSw
      go_split_ands
      go_simp
      try with_reducible rfl
    try simp only [Act.put, List.setIfInBounds_toArray, List.set_cons_zero, List.set_cons_succ]
    refine wpAnyH_take (i := 3) (oi := { dst := some 7, op := Go.Op.fieldAddr 32 (Go.Operand.tmp 1) 1, type := 0, pos := "ref.go:63", after := #[], guard := none }) (v := ?_) rfl (by kernel_rfl) (by kernel_rfl) (by kernel_rfl) (fun _ _ _ h => h) (Or.inl ⟨by rfl, ?_⟩) (by assumption) ?_
    rotate_left
    · intro wS hSw
      try dsimp only at hSw
      go_split_ands
      go_simp
      try with_reducible rfl
    try simp only [Act.put, List.setIfInBounds_toArray, List.set_cons_zero, List.set_cons_succ]
    refine wpAnyH_take (i := 4) (oi := { dst := some 8, op := Go.Op.load 26 (Go.Operand.tmp 7), type := 26, pos := "ref.go:63", after := #[{ on := 3, ground := Go.Ground.data }], guard := none }) (v := ?_) rfl (by kernel_rfl) (by kernel_rfl) (by kernel_rfl) (fun _ _ _ h => h) (Or.inl ⟨by rfl, ?_⟩) (by assumption) ?_
    rotate_left
    · intro wS hSw
      try dsimp only at hSw
      go_split_ands
      go_simp
      try with_reducible rfl
    try simp only [Act.put, List.setIfInBounds_toArray, List.set_cons_zero, List.set_cons_succ]
    refine wpAnyH_take (i := 6) (oi := { dst := some 10, op := Go.Op.fieldAddr 32 (Go.Operand.tmp 1) 2, type := 0, pos := "ref.go:63", after := #[], guard := none }) (v := ?_) rfl (by kernel_rfl) (by kernel_rfl) (by kernel_rfl) (fun _ _ _ h => h) (Or.inl ⟨by rfl, ?_⟩) (by assumption) ?_
    rotate_left
    · intro wS hSw
      try dsimp only at hSw
      go_split_ands
      go_simp
      try with_reducible rfl
    try simp only [Act.put, List.setIfInBounds_toArray, List.set_cons_zero, List.set_cons_succ]
    refine wpAnyH_take (i := 7) (oi := { dst := some 11, op := Go.Op.load 3 (Go.Operand.tmp 10), type := 3, pos := "ref.go:63", after := #[{ on := 6, ground := Go.Ground.data }], guard := none }) (v := ?_) rfl (by kernel_rfl) (by kernel_rfl) (by kernel_rfl) (fun _ _ _ h => h) (Or.inl ⟨by rfl, ?_⟩) (by assumption) ?_
    rotate_left
    · intro wS hSw
      try dsimp only at hSw
      go_split_ands
      go_simp
      try with_reducible rfl
    try simp only [Act.put, List.setIfInBounds_toArray, List.set_cons_zero, List.set_cons_succ]
    refine wpAnyH_take (i := 8) (oi := { dst := some 12, op := Go.Op.convert 3 5 (Go.Operand.tmp 11), type := 5, pos := "ref.go:63", after := #[{ on := 7, ground := Go.Ground.data }], guard := none }) (v := ?_) rfl (by kernel_rfl) (by kernel_rfl) (by kernel_rfl) (fun _ _ _ h => h) (Or.inl ⟨by rfl, ?_⟩) (by assumption) ?_
    rotate_left
    · intro wS hSw
      try dsimp only at hSw
      go_split_ands
      go_simp
      try with_reducible rfl
    try simp only [Act.put, List.setIfInBounds_toArray, List.set_cons_zero, List.set_cons_succ]
    refine wpAnyH_ready (rs := [2, 9]) (by kernel_rfl) (by simp) ?_
    refine AllReadyH.cons (o := { dst := some 6, op := Go.Op.call { callee := Go.Callee.value (Go.Operand.func 35), args := #[Go.Operand.const (Go.Value.slice none 0 0), Go.Operand.tmp 5, Go.Operand.const (Go.Value.int Go.IntKind.i64 6)], argTypes := #[40, 25, 3] }, type := 40, pos := "ref.go:63", after := #[{ on := 1, ground := Go.Ground.data }], guard := none }) rfl (fun K hK => ?_) (AllReadyH.cons (o := { dst := some 13, op := Go.Op.buildSlice 40 1 #[(0, Go.Operand.tmp 12)], type := 40, pos := "ref.go:63", after := #[{ on := 8, ground := Go.Ground.data }], guard := none }) rfl (fun K hK => ?_) AllReadyH.nil)
    · go_simp
      go_at_call 35
      refine (rput7_6 _ _ [] (x.s) ⟨by omega, by omega⟩ (by decide) _ HQ.out.o5).mono ?_
      rw [HP1.out]
      rintro eac uac ⟨Aac, cac, lac, rfl, ho, hn⟩
      have HQ := Lib.hid (HQ.out.step ho hn)
      clear ho hn
      refine hK.out _ _ (⟨HQ.out.box.cell 0, HQ.out.box.cell 1, HQ.out.box.cell 2, trivial⟩) (fun hHeld => ?_)
      clear hK K
      try simp only [Act.put, List.setIfInBounds_toArray, List.set_cons_zero, List.set_cons_succ]
      refine wpAnyH_ready (rs := [5, 9]) (by kernel_rfl) (by simp) ?_
      refine AllReadyH.cons (o := { dst := some 9, op := Go.Op.call { callee := Go.Callee.value (Go.Operand.func 35), args := #[Go.Operand.tmp 6, Go.Operand.tmp 8, Go.Operand.const (Go.Value.int Go.IntKind.i64 6)], argTypes := #[40, 25, 3] }, type := 40, pos := "ref.go:63", after := #[{ on := 2, ground := Go.Ground.data }, { on := 4, ground := Go.Ground.data }, { on := 2, ground := Go.Ground.chain }], guard := none }) rfl (fun K hK => ?_) (AllReadyH.cons (o := { dst := some 13, op := Go.Op.buildSlice 40 1 #[(0, Go.Operand.tmp 12)], type := 40, pos := "ref.go:63", after := #[{ on := 8, ground := Go.Ground.data }], guard := none }) rfl (fun K hK => ?_) AllReadyH.nil)
      · go_simp
        go_at_call 35
        refine (rput7_6 _ _ P1 (x.d) ⟨by omega, by omega⟩ (by have := HLP1.out; omega) _ HQ.out.o5).mono ?_
        rw [HP2.out]
        rintro eacc uacc ⟨Aacc, cacc, lacc, rfl, ho, hn⟩
        have HQ := Lib.hid (HQ.out.step ho hn)
        clear ho hn
        refine hK.out _ _ (⟨HQ.out.box.cell 0, HQ.out.box.cell 1, HQ.out.box.cell 2, trivial⟩) (fun hHeld => ?_)
        clear hK K
        try simp only [Act.put, List.setIfInBounds_toArray, List.set_cons_zero, List.set_cons_succ]
        refine wpAnyH_ready (rs := [9]) (by kernel_rfl) (by simp) ?_
        refine AllReadyH.cons (o := { dst := some 13, op := Go.Op.buildSlice 40 1 #[(0, Go.Operand.tmp 12)], type := 40, pos := "ref.go:63", after := #[{ on := 8, ground := Go.Ground.data }], guard := none }) rfl (fun K hK => ?_) AllReadyH.nil
        go_simp
        have LB : Hid (Lz (uacc.alloc (.cells #[.int .u8 k8] 5)) lacc (.slice (some ⟨uacc.heap.size, 0, none⟩) 1 1) [k8]) := Lib.hid (Lz.made (W := uacc) _ rfl rfl HQ.out.o5.lt)
        have HQ := Lib.hid (HQ.out.below (W' := (uacc.alloc (.cells #[.int .u8 k8] 5))) ((Below.refl _ uacc).alloc (Nat.le_refl _) _))
        refine hK.out _ _ (⟨HQ.out.box.cell 0, HQ.out.box.cell 1, HQ.out.box.cell 2, trivial⟩) (fun hHeld => ?_)
        clear hK K
        try simp only [Act.put, List.setIfInBounds_toArray, List.set_cons_zero, List.set_cons_succ]
        refine wpAnyH_ready (rs := [10]) (by kernel_rfl) (by simp) ?_
        refine AllReadyH.cons (o := { dst := some 14, op := Go.Op.call { callee := Go.Callee.builtin Go.Builtin.append, args := #[Go.Operand.tmp 9, Go.Operand.tmp 13], argTypes := #[40, 40] }, type := 40, pos := "ref.go:63", after := #[{ on := 5, ground := Go.Ground.data }, { on := 9, ground := Go.Ground.data }, { on := 5, ground := Go.Ground.chain }], guard := none }) rfl (fun K hK => ?_) AllReadyH.nil
        refine step_app5z rfl (.tmp 9) (.tmp 13) rfl HQ.out.o5 rfl LB.out rfl (by have := HLP2.out; simp; omega) (some 14) rfl ?_
        rw [HP3.out]
        intro Aaccbz caccbz waccbz laccbz ho hn
        have HQ := Lib.hid (HQ.out.step ho hn)
        clear ho hn
        refine hK.out _ _ (⟨HQ.out.box.cell 0, HQ.out.box.cell 1, HQ.out.box.cell 2, trivial⟩) (fun hHeld => ?_)
        clear hK K
        try simp only [Act.put, List.setIfInBounds_toArray, List.set_cons_zero, List.set_cons_succ]
        refine wpAnyH_take (i := 11) (oi := { dst := some 3, op := Go.Op.assign (Go.Operand.tmp 14), type := 40, pos := "ref.go:63", after := #[{ on := 10, ground := Go.Ground.data }, { on := 10, ground := Go.Ground.chain }, { on := 0, ground := Go.Ground.phase }, { on := 1, ground := Go.Ground.phase }, { on := 2, ground := Go.Ground.phase }, { on := 3, ground := Go.Ground.phase }, { on := 4, ground := Go.Ground.phase }, { on := 5, ground := Go.Ground.phase }, { on := 6, ground := Go.Ground.phase }, { on := 7, ground := Go.Ground.phase }, { on := 8, ground := Go.Ground.phase }, { on := 9, ground := Go.Ground.phase }, { on := 10, ground := Go.Ground.phase }], guard := none }) (v := ?_) rfl (by kernel_rfl) (by kernel_rfl) (by kernel_rfl) (fun _ _ _ h => h) (Or.inl ⟨by rfl, ?_⟩) (by assumption) ?_
        rotate_left
        · intro wS hSw
          try dsimp only at hSw
          go_split_ands
          go_simp
          try with_reducible rfl
        try simp only [Act.put, List.setIfInBounds_toArray, List.set_cons_zero, List.set_cons_succ]
        refine wpAnyH_done (by kernel_rfl) ?_ _
        go_wp2_with fail
        go_meet
        exact ⟨_, _, _, rfl, HQ.out⟩
      · go_simp
        have LB : Hid (Lz (uac.alloc (.cells #[.int .u8 k8] 5)) lac (.slice (some ⟨uac.heap.size, 0, none⟩) 1 1) [k8]) := Lib.hid (Lz.made (W := uac) _ rfl rfl HQ.out.o5.lt)
        have HQ := Lib.hid (HQ.out.below (W' := (uac.alloc (.cells #[.int .u8 k8] 5))) ((Below.refl _ uac).alloc (Nat.le_refl _) _))
        refine hK.out _ _ (⟨HQ.out.box.cell 0, HQ.out.box.cell 1, HQ.out.box.cell 2, trivial⟩) (fun hHeld => ?_)
        clear hK K
        try simp only [Act.put, List.setIfInBounds_toArray, List.set_cons_zero, List.set_cons_succ]
        refine wpAnyH_ready (rs := [5]) (by kernel_rfl) (by simp) ?_
        refine AllReadyH.cons (o := { dst := some 9, op := Go.Op.call { callee := Go.Callee.value (Go.Operand.func 35), args := #[Go.Operand.tmp 6, Go.Operand.tmp 8, Go.Operand.const (Go.Value.int Go.IntKind.i64 6)], argTypes := #[40, 25, 3] }, type := 40, pos := "ref.go:63", after := #[{ on := 2, ground := Go.Ground.data }, { on := 4, ground := Go.Ground.data }, { on := 2, ground := Go.Ground.chain }], guard := none }) rfl (fun K hK => ?_) AllReadyH.nil
        go_simp
        go_at_call 35
        refine (rput7_6 _ _ P1 (x.d) ⟨by omega, by omega⟩ (by have := HLP1.out; omega) _ HQ.out.o5).mono ?_
        rw [HP2.out]
        rintro eacbc uacbc ⟨Aacbc, cacbc, lacbc, rfl, ho, hn⟩
        have LB := Lib.hid (LB.out.next hn)
        have HQ := Lib.hid (HQ.out.step ho hn)
        clear ho hn
        refine hK.out _ _ (⟨HQ.out.box.cell 0, HQ.out.box.cell 1, HQ.out.box.cell 2, trivial⟩) (fun hHeld => ?_)
        clear hK K
        try simp only [Act.put, List.setIfInBounds_toArray, List.set_cons_zero, List.set_cons_succ]
        refine wpAnyH_ready (rs := [10]) (by kernel_rfl) (by simp) ?_
        refine AllReadyH.cons (o := { dst := some 14, op := Go.Op.call { callee := Go.Callee.builtin Go.Builtin.append, args := #[Go.Operand.tmp 9, Go.Operand.tmp 13], argTypes := #[40, 40] }, type := 40, pos := "ref.go:63", after := #[{ on := 5, ground := Go.Ground.data }, { on := 9, ground := Go.Ground.data }, { on := 5, ground := Go.Ground.chain }], guard := none }) rfl (fun K hK => ?_) AllReadyH.nil
        refine step_app5z rfl (.tmp 9) (.tmp 13) rfl HQ.out.o5 rfl LB.out rfl (by have := HLP2.out; simp; omega) (some 14) rfl ?_
        rw [HP3.out]
        intro Aacbcz cacbcz wacbcz lacbcz ho hn
        have HQ := Lib.hid (HQ.out.step ho hn)
        clear ho hn
        refine hK.out _ _ (⟨HQ.out.box.cell 0, HQ.out.box.cell 1, HQ.out.box.cell 2, trivial⟩) (fun hHeld => ?_)
        clear hK K
        try simp only [Act.put, List.setIfInBounds_toArray, List.set_cons_zero, List.set_cons_succ]
        refine wpAnyH_take (i := 11) (oi := { dst := some 3, op := Go.Op.assign (Go.Operand.tmp 14), type := 40, pos := "ref.go:63", after := #[{ on := 10, ground := Go.Ground.data }, { on := 10, ground := Go.Ground.chain }, { on := 0, ground := Go.Ground.phase }, { on := 1, ground := Go.Ground.phase }, { on := 2, ground := Go.Ground.phase }, { on := 3, ground := Go.Ground.phase }, { on := 4, ground := Go.Ground.phase }, { on := 5, ground := Go.Ground.phase }, { on := 6, ground := Go.Ground.phase }, { on := 7, ground := Go.Ground.phase }, { on := 8, ground := Go.Ground.phase }, { on := 9, ground := Go.Ground.phase }, { on := 10, ground := Go.Ground.phase }], guard := none }) (v := ?_) rfl (by kernel_rfl) (by kernel_rfl) (by kernel_rfl) (fun _ _ _ h => h) (Or.inl ⟨by rfl, ?_⟩) (by assumption) ?_
        rotate_left
        · intro wS hSw
          try dsimp only at hSw
          go_split_ands
          go_simp
          try with_reducible rfl
        try simp only [Act.put, List.setIfInBounds_toArray, List.set_cons_zero, List.set_cons_succ]
        refine wpAnyH_done (by kernel_rfl) ?_ _
        go_wp2_with fail
        go_meet
        exact ⟨_, _, _, rfl, HQ.out⟩
    · go_simp
      have LB : Hid (Lz (W1.drew.alloc (.cells #[.int .u8 k8] 5)) [] (.slice (some ⟨W1.drew.heap.size, 0, none⟩) 1 1) [k8]) := Lib.hid (Lz.made (W := W1.drew) _ rfl rfl HQ.out.o5.lt)
      have HQ := Lib.hid (HQ.out.below (W' := (W1.drew.alloc (.cells #[.int .u8 k8] 5))) ((Below.refl _ W1.drew).alloc (Nat.le_refl _) _))
      refine hK.out _ _ (⟨HQ.out.box.cell 0, HQ.out.box.cell 1, HQ.out.box.cell 2, trivial⟩) (fun hHeld => ?_)
      clear hK K
      try simp only [Act.put, List.setIfInBounds_toArray, List.set_cons_zero, List.set_cons_succ]
      refine wpAnyH_ready (rs := [2]) (by kernel_rfl) (by simp) ?_
      refine AllReadyH.cons (o := { dst := some 6, op := Go.Op.call { callee := Go.Callee.value (Go.Operand.func 35), args := #[Go.Operand.const (Go.Value.slice none 0 0), Go.Operand.tmp 5, Go.Operand.const (Go.Value.int Go.IntKind.i64 6)], argTypes := #[40, 25, 3] }, type := 40, pos := "ref.go:63", after := #[{ on := 1, ground := Go.Ground.data }], guard := none }) rfl (fun K hK => ?_) AllReadyH.nil
      go_simp
      go_at_call 35
      refine (rput7_6 _ _ [] (x.s) ⟨by omega, by omega⟩ (by decide) _ HQ.out.o5).mono ?_
      rw [HP1.out]
      rintro eabc uabc ⟨Aabc, cabc, labc, rfl, ho, hn⟩
      have LB := Lib.hid (LB.out.next hn)
      have HQ := Lib.hid (HQ.out.step ho hn)
      clear ho hn
      refine hK.out _ _ (⟨HQ.out.box.cell 0, HQ.out.box.cell 1, HQ.out.box.cell 2, trivial⟩) (fun hHeld => ?_)
      clear hK K
      try simp only [Act.put, List.setIfInBounds_toArray, List.set_cons_zero, List.set_cons_succ]
      refine wpAnyH_ready (rs := [5]) (by kernel_rfl) (by simp) ?_
      refine AllReadyH.cons (o := { dst := some 9, op := Go.Op.call { callee := Go.Callee.value (Go.Operand.func 35), args := #[Go.Operand.tmp 6, Go.Operand.tmp 8, Go.Operand.const (Go.Value.int Go.IntKind.i64 6)], argTypes := #[40, 25, 3] }, type := 40, pos := "ref.go:63", after := #[{ on := 2, ground := Go.Ground.data }, { on := 4, ground := Go.Ground.data }, { on := 2, ground := Go.Ground.chain }], guard := none }) rfl (fun K hK => ?_) AllReadyH.nil
      go_simp
      go_at_call 35
      refine (rput7_6 _ _ P1 (x.d) ⟨by omega, by omega⟩ (by have := HLP1.out; omega) _ HQ.out.o5).mono ?_
      rw [HP2.out]
      rintro eabcc uabcc ⟨Aabcc, cabcc, labcc, rfl, ho, hn⟩
      have LB := Lib.hid (LB.out.next hn)
      have HQ := Lib.hid (HQ.out.step ho hn)
      clear ho hn
      refine hK.out _ _ (⟨HQ.out.box.cell 0, HQ.out.box.cell 1, HQ.out.box.cell 2, trivial⟩) (fun hHeld => ?_)
      clear hK K
      try simp only [Act.put, List.setIfInBounds_toArray, List.set_cons_zero, List.set_cons_succ]
      refine wpAnyH_ready (rs := [10]) (by kernel_rfl) (by simp) ?_
      refine AllReadyH.cons (o := { dst := some 14, op := Go.Op.call { callee := Go.Callee.builtin Go.Builtin.append, args := #[Go.Operand.tmp 9, Go.Operand.tmp 13], argTypes := #[40, 40] }, type := 40, pos := "ref.go:63", after := #[{ on := 5, ground := Go.Ground.data }, { on := 9, ground := Go.Ground.data }, { on := 5, ground := Go.Ground.chain }], guard := none }) rfl (fun K hK => ?_) AllReadyH.nil
      refine step_app5z rfl (.tmp 9) (.tmp 13) rfl HQ.out.o5 rfl LB.out rfl (by have := HLP2.out; simp; omega) (some 14) rfl ?_
      rw [HP3.out]
      intro Aabccz cabccz wabccz labccz ho hn
      have HQ := Lib.hid (HQ.out.step ho hn)
      clear ho hn
      refine hK.out _ _ (⟨HQ.out.box.cell 0, HQ.out.box.cell 1, HQ.out.box.cell 2, trivial⟩) (fun hHeld => ?_)
      clear hK K
      try simp only [Act.put, List.setIfInBounds_toArray, List.set_cons_zero, List.set_cons_succ]
      refine wpAnyH_take (i := 11) (oi := { dst := some 3, op := Go.Op.assign (Go.Operand.tmp 14), type := 40, pos := "ref.go:63", after := #[{ on := 10, ground := Go.Ground.data }, { on := 10, ground := Go.Ground.chain }, { on := 0, ground := Go.Ground.phase }, { on := 1, ground := Go.Ground.phase }, { on := 2, ground := Go.Ground.phase }, { on := 3, ground := Go.Ground.phase }, { on := 4, ground := Go.Ground.phase }, { on := 5, ground := Go.Ground.phase }, { on := 6, ground := Go.Ground.phase }, { on := 7, ground := Go.Ground.phase }, { on := 8, ground := Go.Ground.phase }, { on := 9, ground := Go.Ground.phase }, { on := 10, ground := Go.Ground.phase }], guard := none }) (v := ?_) rfl (by kernel_rfl) (by kernel_rfl) (by kernel_rfl) (fun _ _ _ h => h) (Or.inl ⟨by rfl, ?_⟩) (by assumption) ?_
      rotate_left
      · intro wS hSw
        try dsimp only at hSw
        go_split_ands
        go_simp
        try with_reducible rfl
      try simp only [Act.put, List.setIfInBounds_toArray, List.set_cons_zero, List.set_cons_succ]
      refine wpAnyH_done (by kernel_rfl) ?_ _
      go_wp2_with fail
      go_meet
      exact ⟨_, _, _, rfl, HQ.out⟩
  case rest =>
  obtain ⟨A, c, l, rfl, hq⟩ := hcut
  clear HQ
  have HQ := Lib.hid hq
  clear hq
  have c2 := HQ.out.box.cell 2
  simp only [List.getElem?_toArray, List.getElem?_cons_zero, List.getElem?_cons_succ] at c2
  go_wp2_with fail
  refine (HHs.out _ _ (HFl.out ▸ HQ.out.o5.arr)).mono ?_
  rintro e w9 ⟨rfl, rfl⟩
  have HBf := Lib.hid HQ.out.lo
  clear HQ
  go_wp2_with fail
  go_ret
  exact ⟨rfl, HBf.out⟩

set_option maxHeartbeats 16000000 in
theorem rent_ip (x : FR) (hx : x.ty) (hk : x.k = 2) (w : World) : Calls Try.prog 20 #[.agg x.cs] w fun e w' => e = .returned (.int .i64 (ent x)) ∧ Below w.heap.size w w' := by
  obtain ⟨hs0, hs1⟩ := hx.s
  obtain ⟨hd0, hd1⟩ := hx.d
  obtain ⟨hhs0, hhs1⟩ := hx.hs
  obtain ⟨hhd0, hhd1⟩ := hx.hd
  obtain ⟨k8, hk8⟩ : ∃ p, IntKind.u8.wrap x.k = p := ⟨_, rfl⟩
  have f8 : x.k % 256 = k8 := hk8
  obtain ⟨P1, hP1⟩ : ∃ P : List Int, [] ++ be x.s 6 = P := ⟨_, rfl⟩
  have hlP1 : P1.length ≤ 40 := by rw [← hP1]; simp [be_length]; try omega
  obtain ⟨P2, hP2⟩ : ∃ P : List Int, P1 ++ be x.d 6 = P := ⟨_, rfl⟩
  have hlP2 : P2.length ≤ 80 := by rw [← hP2]; simp [be_length]; try omega
  obtain ⟨P3, hP3⟩ : ∃ P : List Int, P2 ++ [k8] = P := ⟨_, rfl⟩
  have hlP3 : P3.length ≤ 120 := by rw [← hP3]; simp [be_length]; try omega
  obtain ⟨p8, hp8⟩ : ∃ p, IntKind.u8.wrap x.pr = p := ⟨_, rfl⟩
  obtain ⟨s64, hs64⟩ : ∃ p, IntKind.u64.wrap x.sp = p := ⟨_, rfl⟩
  obtain ⟨d64, hd64⟩ : ∃ p, IntKind.u64.wrap x.dp = p := ⟨_, rfl⟩
  have g8 : x.pr % 256 = p8 := hp8
  have g16 : x.sp % 18446744073709551616 = s64 := hs64
  have h16 : x.dp % 18446744073709551616 = d64 := hd64
  have hsp : 0 ≤ s64 ∧ s64 < 18446744073709551616 := by omega
  have hdp : 0 ≤ d64 ∧ d64 < 18446744073709551616 := by omega
  obtain ⟨hsp0, hsp1⟩ := hsp
  obtain ⟨hdp0, hdp1⟩ := hdp
  obtain ⟨Q1, hQ1⟩ : ∃ P : List Int, [] ++ be x.hs 4 = P := ⟨_, rfl⟩
  have hlQ1 : Q1.length ≤ 40 := by rw [← hQ1]; simp [be_length]; try omega
  obtain ⟨Q2, hQ2⟩ : ∃ P : List Int, Q1 ++ be x.hd 4 = P := ⟨_, rfl⟩
  have hlQ2 : Q2.length ≤ 80 := by rw [← hQ2]; simp [be_length]; try omega
  obtain ⟨Q3, hQ3⟩ : ∃ P : List Int, Q2 ++ [p8] = P := ⟨_, rfl⟩
  have hlQ3 : Q3.length ≤ 120 := by rw [← hQ3]; simp [be_length]; try omega
  obtain ⟨Q4, hQ4⟩ : ∃ P : List Int, Q3 ++ be s64 2 = P := ⟨_, rfl⟩
  have hlQ4 : Q4.length ≤ 160 := by rw [← hQ4]; simp [be_length]; try omega
  obtain ⟨Q5, hQ5⟩ : ∃ P : List Int, Q4 ++ be d64 2 = P := ⟨_, rfl⟩
  have hlQ5 : Q5.length ≤ 200 := by rw [← hQ5]; simp [be_length]; try omega
  have HFl : Hid (Q5 = flowP x) := Lib.hid (by
    unfold flowP
    rw [if_pos hk, ← be_mod64 x.sp, ← be_mod64 x.dp, be_one, g8, g16, h16, ← hQ5, ← hQ4, ← hQ3, ← hQ2, ← hQ1]
    simp only [List.nil_append, List.append_assoc])
  have HK := Lib.hid hk
  have wahs : IntKind.u64.wrap x.hs = x.hs := wr64 _ (by omega) (by omega)
  have wbhs : x.hs % 18446744073709551616 = x.hs := by omega
  have wahd : IntKind.u64.wrap x.hd = x.hd := wr64 _ (by omega) (by omega)
  have wbhd : x.hd % 18446744073709551616 = x.hd := by omega
  clear f8 hk g8 g16 h16
  have HP1 := Lib.hid hP1
  have HLP1 := Lib.hid hlP1
  have HP2 := Lib.hid hP2
  have HLP2 := Lib.hid hlP2
  have HP3 := Lib.hid hP3
  have HLP3 := Lib.hid hlP3
  clear hP1 hlP1 hP2 hlP2 hP3 hlP3
  have HQ1 := Lib.hid hQ1
  have HLQ1 := Lib.hid hlQ1
  have HQ2 := Lib.hid hQ2
  have HLQ2 := Lib.hid hlQ2
  have HQ3 := Lib.hid hQ3
  have HLQ3 := Lib.hid hlQ3
  have HQ4 := Lib.hid hQ4
  have HLQ4 := Lib.hid hlQ4
  have HQ5 := Lib.hid hQ5
  have HLQ5 := Lib.hid hlQ5
  clear hQ1 hlQ1 hQ2 hlQ2 hQ3 hlQ3 hQ4 hlQ4 hQ5 hlQ5
  obtain ⟨hf0, hf1⟩ := fnv_bd (flowP x)
  obtain ⟨h, hh⟩ : ∃ h, fnv (flowP x) = h := ⟨_, rfl⟩
  have hw1 : IntKind.i64.wrap (h % 16384) = h % 16384 := IntWalk.i64_in _ (by omega)
  rw [hh] at hf0 hf1
  have hm0 : 0 ≤ h % 16384 := by omega
  have hm1 : h % 16384 < 16384 := by omega
  have HHs : Hid (∀ (v : Value) (W : World), Arr W v (flowP x) → Calls Try.prog 18 #[v] W fun e w' => e = .returned (.int .u32 h) ∧ W = w') := Lib.hid (fun v W ha => hh ▸ rhash_arr v (flowP x) W ha (by rw [flow_len]; decide) (flow_byte x))
  have HEnt : Hid (ent x = 49152 + h % 16384) := Lib.hid (by unfold ent; rw [hh])
  rw [HEnt.out]
  clear hx hh
  unfold FR.cs
  obtain ⟨W1, hW1⟩ : ∃ W1, w.alloc (.cells #[.int .u64 x.s, .int .u64 x.d, .int .i64 x.k, .int .i64 x.op, .int .u64 x.sm, .int .u32 x.si, .int .u64 x.tm, .int .u32 x.ti, .int .u32 x.hs, .int .u32 x.hd, .int .i64 x.tl, .int .i64 x.pr, .int .i64 x.sp, .int .i64 x.dp, .int .u64 x.da] 32) = W1 := ⟨_, rfl⟩
  have HQ : Hid (QB w x [] none 0 0 [] W1) := Lib.hid (hW1 ▸ QB.start ((Below.refl _ w).alloc (Nat.le_refl _) _) (Has.new w _ _))
  go_enter Try.func20, Try.ntmps20
  go_upto_region 1 with fail
  try rw [hW1]
  clear hW1
  go_cut [3] (fun v3 wx => ∃ A c l, v3 = .slice A (P3).length c ∧ QB w x l A (P3).length c (P3) wx)
  case first =>
    have HQ := Lib.hid (HQ.out.below (Below.refl _ _).drew)
    refine wp_region_held_drew (S := (fun w' => w'.cell? ⟨w.heap.size, 0, none⟩ = some (.int .u64 x.s) ∧ w'.cell? ⟨w.heap.size, 1, none⟩ = some (.int .u64 x.d) ∧ w'.cell? ⟨w.heap.size, 2, none⟩ = some (.int .i64 x.k) ∧ True)) (by kernel_rfl) (⟨HQ.out.box.cell 0, HQ.out.box.cell 1, HQ.out.box.cell 2, trivial⟩) (fun hHeld => ?_)
    refine wpAnyH_take (i := 0) (oi := { dst := some 4, op := Go.Op.fieldAddr 32 (Go.Operand.tmp 1) 0, type := 0, pos := "ref.go:63", after := #[], guard := none }) (v := ?_) rfl (by kernel_rfl) (by kernel_rfl) (by kernel_rfl) (fun _ _ _ h => h) (Or.inl ⟨by rfl, ?_⟩) (by assumption) ?_
    rotate_left
    · intro wS hSw
      try dsimp only at hSw
      go_split_ands
      go_simp
      try with_reducible rfl
    try simp only [Act.put, List.setIfInBounds_toArray, List.set_cons_zero, List.set_cons_succ]
    refine wpAnyH_take (i := 1) (oi := { dst := some 5, op := Go.Op.load 26 (Go.Operand.tmp 4), type := 26, pos := "ref.go:63", after := #[{ on := 0, ground := Go.Ground.data }], guard := none }) (v := ?_) rfl (by kernel_rfl) (by kernel_rfl) (by kernel_rfl) (fun _ _ _ h => h) (Or.inl ⟨by rfl, ?_⟩) (by assumption) ?_
    rotate_left
    · intro wS hSw
      try dsimp only at hSw
      go_split_ands
      go_simp
      try with_reducible rfl
    try simp only [Act.put, List.setIfInBounds_toArray, List.set_cons_zero, List.set_cons_succ]
    refine wpAnyH_take (i := 3) (oi := { dst := some 7, op := Go.Op.fieldAddr 32 (Go.Operand.tmp 1) 1, type := 0, pos := "ref.go:63", after := #[], guard := none }) (v := ?_) rfl (by kernel_rfl) (by kernel_rfl) (by kernel_rfl) (fun _ _ _ h => h) (Or.inl ⟨by rfl, ?_⟩) (by assumption) ?_
    rotate_left
    · intro wS hSw
      try dsimp only at hSw
      go_split_ands
      go_simp
      try with_reducible rfl
    try simp only [Act.put, List.setIfInBounds_toArray, List.set_cons_zero, List.set_cons_succ]
    refine wpAnyH_take (i := 4) (oi := { dst := some 8, op := Go.Op.load 26 (Go.Operand.tmp 7), type := 26, pos := "ref.go:63", after := #[{ on := 3, ground := Go.Ground.data }], guard := none }) (v := ?_) rfl (by kernel_rfl) (by kernel_rfl) (by kernel_rfl) (fun _ _ _ h => h) (Or.inl ⟨by rfl, ?_⟩) (by assumption) ?_
    rotate_left
    · intro wS hSw
      try dsimp only at hSw
      go_split_ands
      go_simp
      try with_reducible rfl
    try simp only [Act.put, List.setIfInBounds_toArray, List.set_cons_zero, List.set_cons_succ]
    refine wpAnyH_take (i := 6) (oi := { dst := some 10, op := Go.Op.fieldAddr 32 (Go.Operand.tmp 1) 2, type := 0, pos := "ref.go:63", after := #[], guard := none }) (v := ?_) rfl (by kernel_rfl) (by kernel_rfl) (by kernel_rfl) (fun _ _ _ h => h) (Or.inl ⟨by rfl, ?_⟩) (by assumption) ?_
    rotate_left
    · intro wS hSw
      try dsimp only at hSw
      go_split_ands
      go_simp
      try with_reducible rfl
    try simp only [Act.put, List.setIfInBounds_toArray, List.set_cons_zero, List.set_cons_succ]
    refine wpAnyH_take (i := 7) (oi := { dst := some 11, op := Go.Op.load 3 (Go.Operand.tmp 10), type := 3, pos := "ref.go:63", after := #[{ on := 6, ground := Go.Ground.data }], guard := none }) (v := ?_) rfl (by kernel_rfl) (by kernel_rfl) (by kernel_rfl) (fun _ _ _ h => h) (Or.inl ⟨by rfl, ?_⟩) (by assumption) ?_
    rotate_left
    · intro wS hSw
      try dsimp only at hSw
      go_split_ands
      go_simp
      try with_reducible rfl
    try simp only [Act.put, List.setIfInBounds_toArray, List.set_cons_zero, List.set_cons_succ]
    refine wpAnyH_take (i := 8) (oi := { dst := some 12, op := Go.Op.convert 3 5 (Go.Operand.tmp 11), type := 5, pos := "ref.go:63", after := #[{ on := 7, ground := Go.Ground.data }], guard := none }) (v := ?_) rfl (by kernel_rfl) (by kernel_rfl) (by kernel_rfl) (fun _ _ _ h => h) (Or.inl ⟨by rfl, ?_⟩) (by assumption) ?_
    rotate_left
    · intro wS hSw
      try dsimp only at hSw
      go_split_ands
      go_simp
      try with_reducible rfl
    try simp only [Act.put, List.setIfInBounds_toArray, List.set_cons_zero, List.set_cons_succ]
    refine wpAnyH_ready (rs := [2, 9]) (by kernel_rfl) (by simp) ?_
    refine AllReadyH.cons (o := { dst := some 6, op := Go.Op.call { callee := Go.Callee.value (Go.Operand.func 35), args := #[Go.Operand.const (Go.Value.slice none 0 0), Go.Operand.tmp 5, Go.Operand.const (Go.Value.int Go.IntKind.i64 6)], argTypes := #[40, 25, 3] }, type := 40, pos := "ref.go:63", after := #[{ on := 1, ground := Go.Ground.data }], guard := none }) rfl (fun K hK => ?_) (AllReadyH.cons (o := { dst := some 13, op := Go.Op.buildSlice 40 1 #[(0, Go.Operand.tmp 12)], type := 40, pos := "ref.go:63", after := #[{ on := 8, ground := Go.Ground.data }], guard := none }) rfl (fun K hK => ?_) AllReadyH.nil)
    · go_simp
      go_at_call 35
      refine (rput7_6 _ _ [] (x.s) ⟨by omega, by omega⟩ (by decide) _ HQ.out.o5).mono ?_
      rw [HP1.out]
      rintro eac uac ⟨Aac, cac, lac, rfl, ho, hn⟩
      have HQ := Lib.hid (HQ.out.step ho hn)
      clear ho hn
      refine hK.out _ _ (⟨HQ.out.box.cell 0, HQ.out.box.cell 1, HQ.out.box.cell 2, trivial⟩) (fun hHeld => ?_)
      clear hK K
      try simp only [Act.put, List.setIfInBounds_toArray, List.set_cons_zero, List.set_cons_succ]
      refine wpAnyH_ready (rs := [5, 9]) (by kernel_rfl) (by simp) ?_
      refine AllReadyH.cons (o := { dst := some 9, op := Go.Op.call { callee := Go.Callee.value (Go.Operand.func 35), args := #[Go.Operand.tmp 6, Go.Operand.tmp 8, Go.Operand.const (Go.Value.int Go.IntKind.i64 6)], argTypes := #[40, 25, 3] }, type := 40, pos := "ref.go:63", after := #[{ on := 2, ground := Go.Ground.data }, { on := 4, ground := Go.Ground.data }, { on := 2, ground := Go.Ground.chain }], guard := none }) rfl (fun K hK => ?_) (AllReadyH.cons (o := { dst := some 13, op := Go.Op.buildSlice 40 1 #[(0, Go.Operand.tmp 12)], type := 40, pos := "ref.go:63", after := #[{ on := 8, ground := Go.Ground.data }], guard := none }) rfl (fun K hK => ?_) AllReadyH.nil)
      · go_simp
        go_at_call 35
        refine (rput7_6 _ _ P1 (x.d) ⟨by omega, by omega⟩ (by have := HLP1.out; omega) _ HQ.out.o5).mono ?_
        rw [HP2.out]
        rintro eacc uacc ⟨Aacc, cacc, lacc, rfl, ho, hn⟩
        have HQ := Lib.hid (HQ.out.step ho hn)
        clear ho hn
        refine hK.out _ _ (⟨HQ.out.box.cell 0, HQ.out.box.cell 1, HQ.out.box.cell 2, trivial⟩) (fun hHeld => ?_)
        clear hK K
        try simp only [Act.put, List.setIfInBounds_toArray, List.set_cons_zero, List.set_cons_succ]
        refine wpAnyH_ready (rs := [9]) (by kernel_rfl) (by simp) ?_
        refine AllReadyH.cons (o := { dst := some 13, op := Go.Op.buildSlice 40 1 #[(0, Go.Operand.tmp 12)], type := 40, pos := "ref.go:63", after := #[{ on := 8, ground := Go.Ground.data }], guard := none }) rfl (fun K hK => ?_) AllReadyH.nil
        go_simp
        have LB : Hid (Lz (uacc.alloc (.cells #[.int .u8 k8] 5)) lacc (.slice (some ⟨uacc.heap.size, 0, none⟩) 1 1) [k8]) := Lib.hid (Lz.made (W := uacc) _ rfl rfl HQ.out.o5.lt)
        have HQ := Lib.hid (HQ.out.below (W' := (uacc.alloc (.cells #[.int .u8 k8] 5))) ((Below.refl _ uacc).alloc (Nat.le_refl _) _))
        refine hK.out _ _ (⟨HQ.out.box.cell 0, HQ.out.box.cell 1, HQ.out.box.cell 2, trivial⟩) (fun hHeld => ?_)
        clear hK K
        try simp only [Act.put, List.setIfInBounds_toArray, List.set_cons_zero, List.set_cons_succ]
        refine wpAnyH_ready (rs := [10]) (by kernel_rfl) (by simp) ?_
        refine AllReadyH.cons (o := { dst := some 14, op := Go.Op.call { callee := Go.Callee.builtin Go.Builtin.append, args := #[Go.Operand.tmp 9, Go.Operand.tmp 13], argTypes := #[40, 40] }, type := 40, pos := "ref.go:63", after := #[{ on := 5, ground := Go.Ground.data }, { on := 9, ground := Go.Ground.data }, { on := 5, ground := Go.Ground.chain }], guard := none }) rfl (fun K hK => ?_) AllReadyH.nil
        refine step_app5z rfl (.tmp 9) (.tmp 13) rfl HQ.out.o5 rfl LB.out rfl (by have := HLP2.out; simp; omega) (some 14) rfl ?_
        rw [HP3.out]
        intro Aaccbz caccbz waccbz laccbz ho hn
        have HQ := Lib.hid (HQ.out.step ho hn)
        clear ho hn
        refine hK.out _ _ (⟨HQ.out.box.cell 0, HQ.out.box.cell 1, HQ.out.box.cell 2, trivial⟩) (fun hHeld => ?_)
        clear hK K
        try simp only [Act.put, List.setIfInBounds_toArray, List.set_cons_zero, List.set_cons_succ]
        refine wpAnyH_take (i := 11) (oi := { dst := some 3, op := Go.Op.assign (Go.Operand.tmp 14), type := 40, pos := "ref.go:63", after := #[{ on := 10, ground := Go.Ground.data }, { on := 10, ground := Go.Ground.chain }, { on := 0, ground := Go.Ground.phase }, { on := 1, ground := Go.Ground.phase }, { on := 2, ground := Go.Ground.phase }, { on := 3, ground := Go.Ground.phase }, { on := 4, ground := Go.Ground.phase }, { on := 5, ground := Go.Ground.phase }, { on := 6, ground := Go.Ground.phase }, { on := 7, ground := Go.Ground.phase }, { on := 8, ground := Go.Ground.phase }, { on := 9, ground := Go.Ground.phase }, { on := 10, ground := Go.Ground.phase }], guard := none }) (v := ?_) rfl (by kernel_rfl) (by kernel_rfl) (by kernel_rfl) (fun _ _ _ h => h) (Or.inl ⟨by rfl, ?_⟩) (by assumption) ?_
        rotate_left
        · intro wS hSw
          try dsimp only at hSw
          go_split_ands
          go_simp
          try with_reducible rfl
        try simp only [Act.put, List.setIfInBounds_toArray, List.set_cons_zero, List.set_cons_succ]
        refine wpAnyH_done (by kernel_rfl) ?_ _
        go_wp2_with fail
        go_meet
        exact ⟨_, _, _, rfl, HQ.out⟩
      · go_simp
        have LB : Hid (Lz (uac.alloc (.cells #[.int .u8 k8] 5)) lac (.slice (some ⟨uac.heap.size, 0, none⟩) 1 1) [k8]) := Lib.hid (Lz.made (W := uac) _ rfl rfl HQ.out.o5.lt)
        have HQ := Lib.hid (HQ.out.below (W' := (uac.alloc (.cells #[.int .u8 k8] 5))) ((Below.refl _ uac).alloc (Nat.le_refl _) _))
        refine hK.out _ _ (⟨HQ.out.box.cell 0, HQ.out.box.cell 1, HQ.out.box.cell 2, trivial⟩) (fun hHeld => ?_)
        clear hK K
        try simp only [Act.put, List.setIfInBounds_toArray, List.set_cons_zero, List.set_cons_succ]
        refine wpAnyH_ready (rs := [5]) (by kernel_rfl) (by simp) ?_
        refine AllReadyH.cons (o := { dst := some 9, op := Go.Op.call { callee := Go.Callee.value (Go.Operand.func 35), args := #[Go.Operand.tmp 6, Go.Operand.tmp 8, Go.Operand.const (Go.Value.int Go.IntKind.i64 6)], argTypes := #[40, 25, 3] }, type := 40, pos := "ref.go:63", after := #[{ on := 2, ground := Go.Ground.data }, { on := 4, ground := Go.Ground.data }, { on := 2, ground := Go.Ground.chain }], guard := none }) rfl (fun K hK => ?_) AllReadyH.nil
        go_simp
        go_at_call 35
        refine (rput7_6 _ _ P1 (x.d) ⟨by omega, by omega⟩ (by have := HLP1.out; omega) _ HQ.out.o5).mono ?_
        rw [HP2.out]
        rintro eacbc uacbc ⟨Aacbc, cacbc, lacbc, rfl, ho, hn⟩
        have LB := Lib.hid (LB.out.next hn)
        have HQ := Lib.hid (HQ.out.step ho hn)
        clear ho hn
        refine hK.out _ _ (⟨HQ.out.box.cell 0, HQ.out.box.cell 1, HQ.out.box.cell 2, trivial⟩) (fun hHeld => ?_)
        clear hK K
        try simp only [Act.put, List.setIfInBounds_toArray, List.set_cons_zero, List.set_cons_succ]
        refine wpAnyH_ready (rs := [10]) (by kernel_rfl) (by simp) ?_
        refine AllReadyH.cons (o := { dst := some 14, op := Go.Op.call { callee := Go.Callee.builtin Go.Builtin.append, args := #[Go.Operand.tmp 9, Go.Operand.tmp 13], argTypes := #[40, 40] }, type := 40, pos := "ref.go:63", after := #[{ on := 5, ground := Go.Ground.data }, { on := 9, ground := Go.Ground.data }, { on := 5, ground := Go.Ground.chain }], guard := none }) rfl (fun K hK => ?_) AllReadyH.nil
        refine step_app5z rfl (.tmp 9) (.tmp 13) rfl HQ.out.o5 rfl LB.out rfl (by have := HLP2.out; simp; omega) (some 14) rfl ?_
        rw [HP3.out]
        intro Aacbcz cacbcz wacbcz lacbcz ho hn
        have HQ := Lib.hid (HQ.out.step ho hn)
        clear ho hn
        refine hK.out _ _ (⟨HQ.out.box.cell 0, HQ.out.box.cell 1, HQ.out.box.cell 2, trivial⟩) (fun hHeld => ?_)
        clear hK K
        try simp only [Act.put, List.setIfInBounds_toArray, List.set_cons_zero, List.set_cons_succ]
        refine wpAnyH_take (i := 11) (oi := { dst := some 3, op := Go.Op.assign (Go.Operand.tmp 14), type := 40, pos := "ref.go:63", after := #[{ on := 10, ground := Go.Ground.data }, { on := 10, ground := Go.Ground.chain }, { on := 0, ground := Go.Ground.phase }, { on := 1, ground := Go.Ground.phase }, { on := 2, ground := Go.Ground.phase }, { on := 3, ground := Go.Ground.phase }, { on := 4, ground := Go.Ground.phase }, { on := 5, ground := Go.Ground.phase }, { on := 6, ground := Go.Ground.phase }, { on := 7, ground := Go.Ground.phase }, { on := 8, ground := Go.Ground.phase }, { on := 9, ground := Go.Ground.phase }, { on := 10, ground := Go.Ground.phase }], guard := none }) (v := ?_) rfl (by kernel_rfl) (by kernel_rfl) (by kernel_rfl) (fun _ _ _ h => h) (Or.inl ⟨by rfl, ?_⟩) (by assumption) ?_
        rotate_left
        · intro wS hSw
          try dsimp only at hSw
          go_split_ands
          go_simp
          try with_reducible rfl
        try simp only [Act.put, List.setIfInBounds_toArray, List.set_cons_zero, List.set_cons_succ]
        refine wpAnyH_done (by kernel_rfl) ?_ _
        go_wp2_with fail
        go_meet
        exact ⟨_, _, _, rfl, HQ.out⟩
    · go_simp
      have LB : Hid (Lz (W1.drew.alloc (.cells #[.int .u8 k8] 5)) [] (.slice (some ⟨W1.drew.heap.size, 0, none⟩) 1 1) [k8]) := Lib.hid (Lz.made (W := W1.drew) _ rfl rfl HQ.out.o5.lt)
      have HQ := Lib.hid (HQ.out.below (W' := (W1.drew.alloc (.cells #[.int .u8 k8] 5))) ((Below.refl _ W1.drew).alloc (Nat.le_refl _) _))
      refine hK.out _ _ (⟨HQ.out.box.cell 0, HQ.out.box.cell 1, HQ.out.box.cell 2, trivial⟩) (fun hHeld => ?_)
      clear hK K
      try simp only [Act.put, List.setIfInBounds_toArray, List.set_cons_zero, List.set_cons_succ]
      refine wpAnyH_ready (rs := [2]) (by kernel_rfl) (by simp) ?_
      refine AllReadyH.cons (o := { dst := some 6, op := Go.Op.call { callee := Go.Callee.value (Go.Operand.func 35), args := #[Go.Operand.const (Go.Value.slice none 0 0), Go.Operand.tmp 5, Go.Operand.const (Go.Value.int Go.IntKind.i64 6)], argTypes := #[40, 25, 3] }, type := 40, pos := "ref.go:63", after := #[{ on := 1, ground := Go.Ground.data }], guard := none }) rfl (fun K hK => ?_) AllReadyH.nil
      go_simp
      go_at_call 35
      refine (rput7_6 _ _ [] (x.s) ⟨by omega, by omega⟩ (by decide) _ HQ.out.o5).mono ?_
      rw [HP1.out]
      rintro eabc uabc ⟨Aabc, cabc, labc, rfl, ho, hn⟩
      have LB := Lib.hid (LB.out.next hn)
      have HQ := Lib.hid (HQ.out.step ho hn)
      clear ho hn
      refine hK.out _ _ (⟨HQ.out.box.cell 0, HQ.out.box.cell 1, HQ.out.box.cell 2, trivial⟩) (fun hHeld => ?_)
      clear hK K
      try simp only [Act.put, List.setIfInBounds_toArray, List.set_cons_zero, List.set_cons_succ]
      refine wpAnyH_ready (rs := [5]) (by kernel_rfl) (by simp) ?_
      refine AllReadyH.cons (o := { dst := some 9, op := Go.Op.call { callee := Go.Callee.value (Go.Operand.func 35), args := #[Go.Operand.tmp 6, Go.Operand.tmp 8, Go.Operand.const (Go.Value.int Go.IntKind.i64 6)], argTypes := #[40, 25, 3] }, type := 40, pos := "ref.go:63", after := #[{ on := 2, ground := Go.Ground.data }, { on := 4, ground := Go.Ground.data }, { on := 2, ground := Go.Ground.chain }], guard := none }) rfl (fun K hK => ?_) AllReadyH.nil
      go_simp
      go_at_call 35
      refine (rput7_6 _ _ P1 (x.d) ⟨by omega, by omega⟩ (by have := HLP1.out; omega) _ HQ.out.o5).mono ?_
      rw [HP2.out]
      rintro eabcc uabcc ⟨Aabcc, cabcc, labcc, rfl, ho, hn⟩
      have LB := Lib.hid (LB.out.next hn)
      have HQ := Lib.hid (HQ.out.step ho hn)
      clear ho hn
      refine hK.out _ _ (⟨HQ.out.box.cell 0, HQ.out.box.cell 1, HQ.out.box.cell 2, trivial⟩) (fun hHeld => ?_)
      clear hK K
      try simp only [Act.put, List.setIfInBounds_toArray, List.set_cons_zero, List.set_cons_succ]
      refine wpAnyH_ready (rs := [10]) (by kernel_rfl) (by simp) ?_
      refine AllReadyH.cons (o := { dst := some 14, op := Go.Op.call { callee := Go.Callee.builtin Go.Builtin.append, args := #[Go.Operand.tmp 9, Go.Operand.tmp 13], argTypes := #[40, 40] }, type := 40, pos := "ref.go:63", after := #[{ on := 5, ground := Go.Ground.data }, { on := 9, ground := Go.Ground.data }, { on := 5, ground := Go.Ground.chain }], guard := none }) rfl (fun K hK => ?_) AllReadyH.nil
      refine step_app5z rfl (.tmp 9) (.tmp 13) rfl HQ.out.o5 rfl LB.out rfl (by have := HLP2.out; simp; omega) (some 14) rfl ?_
      rw [HP3.out]
      intro Aabccz cabccz wabccz labccz ho hn
      have HQ := Lib.hid (HQ.out.step ho hn)
      clear ho hn
      refine hK.out _ _ (⟨HQ.out.box.cell 0, HQ.out.box.cell 1, HQ.out.box.cell 2, trivial⟩) (fun hHeld => ?_)
      clear hK K
      try simp only [Act.put, List.setIfInBounds_toArray, List.set_cons_zero, List.set_cons_succ]
      refine wpAnyH_take (i := 11) (oi := { dst := some 3, op := Go.Op.assign (Go.Operand.tmp 14), type := 40, pos := "ref.go:63", after := #[{ on := 10, ground := Go.Ground.data }, { on := 10, ground := Go.Ground.chain }, { on := 0, ground := Go.Ground.phase }, { on := 1, ground := Go.Ground.phase }, { on := 2, ground := Go.Ground.phase }, { on := 3, ground := Go.Ground.phase }, { on := 4, ground := Go.Ground.phase }, { on := 5, ground := Go.Ground.phase }, { on := 6, ground := Go.Ground.phase }, { on := 7, ground := Go.Ground.phase }, { on := 8, ground := Go.Ground.phase }, { on := 9, ground := Go.Ground.phase }, { on := 10, ground := Go.Ground.phase }], guard := none }) (v := ?_) rfl (by kernel_rfl) (by kernel_rfl) (by kernel_rfl) (fun _ _ _ h => h) (Or.inl ⟨by rfl, ?_⟩) (by assumption) ?_
      rotate_left
      · intro wS hSw
        try dsimp only at hSw
        go_split_ands
        go_simp
        try with_reducible rfl
      try simp only [Act.put, List.setIfInBounds_toArray, List.set_cons_zero, List.set_cons_succ]
      refine wpAnyH_done (by kernel_rfl) ?_ _
      go_wp2_with fail
      go_meet
      exact ⟨_, _, _, rfl, HQ.out⟩
  case rest =>
  obtain ⟨A, c, l, rfl, hq⟩ := hcut
  clear HQ
  have HQ := Lib.hid hq
  clear hq
  have c2 := HQ.out.box.cell 2
  simp only [List.getElem?_toArray, List.getElem?_cons_zero, List.getElem?_cons_succ] at c2
  rw [HK.out] at c2
  have HQ : Hid (QB w x [] none 0 0 [] wc) := Lib.hid (QB.start HQ.out.lo HQ.out.box)
  go_upto_region 3 with fail
  go_cut [3] (fun v3 wx => ∃ A c l, v3 = .slice A (Q3).length c ∧ QB w x l A (Q3).length c (Q3) wx)
  case first =>
    have HQ := Lib.hid (HQ.out.below (Below.refl _ _).drew)
    refine wp_region_held_drew (S := (fun w' => w'.cell? ⟨w.heap.size, 8, none⟩ = some (.int .u32 x.hs) ∧ w'.cell? ⟨w.heap.size, 9, none⟩ = some (.int .u32 x.hd) ∧ w'.cell? ⟨w.heap.size, 11, none⟩ = some (.int .i64 x.pr) ∧ True)) (by kernel_rfl) (⟨HQ.out.box.cell 8, HQ.out.box.cell 9, HQ.out.box.cell 11, trivial⟩) (fun hHeld => ?_)
    refine wpAnyH_take (i := 0) (oi := { dst := some 18, op := Go.Op.fieldAddr 32 (Go.Operand.tmp 1) 4, type := 0, pos := "ref.go:65", after := #[], guard := none }) (v := ?_) rfl (by kernel_rfl) (by kernel_rfl) (by kernel_rfl) (fun _ _ _ h => h) (Or.inl ⟨by rfl, ?_⟩) (by assumption) ?_
    rotate_left
    · intro wS hSw
      try dsimp only at hSw
      go_split_ands
      go_simp
      try with_reducible rfl
    try simp only [Act.put, List.setIfInBounds_toArray, List.set_cons_zero, List.set_cons_succ]
    refine wpAnyH_take (i := 1) (oi := { dst := some 19, op := Go.Op.fieldAddr 30 (Go.Operand.tmp 18) 0, type := 0, pos := "ref.go:65", after := #[{ on := 0, ground := Go.Ground.data }], guard := none }) (v := ?_) rfl (by kernel_rfl) (by kernel_rfl) (by kernel_rfl) (fun _ _ _ h => h) (Or.inl ⟨by rfl, ?_⟩) (by assumption) ?_
    rotate_left
    · intro wS hSw
      try dsimp only at hSw
      go_split_ands
      go_simp
      try with_reducible rfl
    try simp only [Act.put, List.setIfInBounds_toArray, List.set_cons_zero, List.set_cons_succ]
    refine wpAnyH_take (i := 2) (oi := { dst := some 20, op := Go.Op.load 24 (Go.Operand.tmp 19), type := 24, pos := "ref.go:65", after := #[{ on := 1, ground := Go.Ground.data }], guard := none }) (v := ?_) rfl (by kernel_rfl) (by kernel_rfl) (by kernel_rfl) (fun _ _ _ h => h) (Or.inl ⟨by rfl, ?_⟩) (by assumption) ?_
    rotate_left
    · intro wS hSw
      try dsimp only at hSw
      go_split_ands
      go_simp
      try with_reducible rfl
    try simp only [Act.put, List.setIfInBounds_toArray, List.set_cons_zero, List.set_cons_succ]
    refine wpAnyH_take (i := 3) (oi := { dst := some 21, op := Go.Op.convert 24 25 (Go.Operand.tmp 20), type := 25, pos := "ref.go:65", after := #[{ on := 2, ground := Go.Ground.data }], guard := none }) (v := ?_) rfl (by kernel_rfl) (by kernel_rfl) (by kernel_rfl) (fun _ _ _ h => h) (Or.inl ⟨by rfl, ?_⟩) (by assumption) ?_
    rotate_left
    · intro wS hSw
      try dsimp only at hSw
      go_split_ands
      go_simp
      try with_reducible rfl
    try simp only [Act.put, List.setIfInBounds_toArray, List.set_cons_zero, List.set_cons_succ]
    refine wpAnyH_take (i := 5) (oi := { dst := some 23, op := Go.Op.fieldAddr 32 (Go.Operand.tmp 1) 4, type := 0, pos := "ref.go:65", after := #[], guard := none }) (v := ?_) rfl (by kernel_rfl) (by kernel_rfl) (by kernel_rfl) (fun _ _ _ h => h) (Or.inl ⟨by rfl, ?_⟩) (by assumption) ?_
    rotate_left
    · intro wS hSw
      try dsimp only at hSw
      go_split_ands
      go_simp
      try with_reducible rfl
    try simp only [Act.put, List.setIfInBounds_toArray, List.set_cons_zero, List.set_cons_succ]
    refine wpAnyH_take (i := 6) (oi := { dst := some 24, op := Go.Op.fieldAddr 30 (Go.Operand.tmp 23) 1, type := 0, pos := "ref.go:65", after := #[{ on := 5, ground := Go.Ground.data }], guard := none }) (v := ?_) rfl (by kernel_rfl) (by kernel_rfl) (by kernel_rfl) (fun _ _ _ h => h) (Or.inl ⟨by rfl, ?_⟩) (by assumption) ?_
    rotate_left
    · intro wS hSw
      try dsimp only at hSw
      go_split_ands
      go_simp
      try with_reducible rfl
    try simp only [Act.put, List.setIfInBounds_toArray, List.set_cons_zero, List.set_cons_succ]
    refine wpAnyH_take (i := 7) (oi := { dst := some 25, op := Go.Op.load 24 (Go.Operand.tmp 24), type := 24, pos := "ref.go:65", after := #[{ on := 6, ground := Go.Ground.data }], guard := none }) (v := ?_) rfl (by kernel_rfl) (by kernel_rfl) (by kernel_rfl) (fun _ _ _ h => h) (Or.inl ⟨by rfl, ?_⟩) (by assumption) ?_
    rotate_left
    · intro wS hSw
      try dsimp only at hSw
      go_split_ands
      go_simp
      try with_reducible rfl
    try simp only [Act.put, List.setIfInBounds_toArray, List.set_cons_zero, List.set_cons_succ]
    refine wpAnyH_take (i := 8) (oi := { dst := some 26, op := Go.Op.convert 24 25 (Go.Operand.tmp 25), type := 25, pos := "ref.go:65", after := #[{ on := 7, ground := Go.Ground.data }], guard := none }) (v := ?_) rfl (by kernel_rfl) (by kernel_rfl) (by kernel_rfl) (fun _ _ _ h => h) (Or.inl ⟨by rfl, ?_⟩) (by assumption) ?_
    rotate_left
    · intro wS hSw
      try dsimp only at hSw
      go_split_ands
      go_simp
      try with_reducible rfl
    try simp only [Act.put, List.setIfInBounds_toArray, List.set_cons_zero, List.set_cons_succ]
    refine wpAnyH_take (i := 10) (oi := { dst := some 28, op := Go.Op.fieldAddr 32 (Go.Operand.tmp 1) 4, type := 0, pos := "ref.go:65", after := #[], guard := none }) (v := ?_) rfl (by kernel_rfl) (by kernel_rfl) (by kernel_rfl) (fun _ _ _ h => h) (Or.inl ⟨by rfl, ?_⟩) (by assumption) ?_
    rotate_left
    · intro wS hSw
      try dsimp only at hSw
      go_split_ands
      go_simp
      try with_reducible rfl
    try simp only [Act.put, List.setIfInBounds_toArray, List.set_cons_zero, List.set_cons_succ]
    refine wpAnyH_take (i := 11) (oi := { dst := some 29, op := Go.Op.fieldAddr 30 (Go.Operand.tmp 28) 3, type := 0, pos := "ref.go:65", after := #[{ on := 10, ground := Go.Ground.data }], guard := none }) (v := ?_) rfl (by kernel_rfl) (by kernel_rfl) (by kernel_rfl) (fun _ _ _ h => h) (Or.inl ⟨by rfl, ?_⟩) (by assumption) ?_
    rotate_left
    · intro wS hSw
      try dsimp only at hSw
      go_split_ands
      go_simp
      try with_reducible rfl
    try simp only [Act.put, List.setIfInBounds_toArray, List.set_cons_zero, List.set_cons_succ]
    refine wpAnyH_take (i := 12) (oi := { dst := some 30, op := Go.Op.load 3 (Go.Operand.tmp 29), type := 3, pos := "ref.go:65", after := #[{ on := 11, ground := Go.Ground.data }], guard := none }) (v := ?_) rfl (by kernel_rfl) (by kernel_rfl) (by kernel_rfl) (fun _ _ _ h => h) (Or.inl ⟨by rfl, ?_⟩) (by assumption) ?_
    rotate_left
    · intro wS hSw
      try dsimp only at hSw
      go_split_ands
      go_simp
      try with_reducible rfl
    try simp only [Act.put, List.setIfInBounds_toArray, List.set_cons_zero, List.set_cons_succ]
    refine wpAnyH_take (i := 13) (oi := { dst := some 31, op := Go.Op.convert 3 5 (Go.Operand.tmp 30), type := 5, pos := "ref.go:65", after := #[{ on := 12, ground := Go.Ground.data }], guard := none }) (v := ?_) rfl (by kernel_rfl) (by kernel_rfl) (by kernel_rfl) (fun _ _ _ h => h) (Or.inl ⟨by rfl, ?_⟩) (by assumption) ?_
    rotate_left
    · intro wS hSw
      try dsimp only at hSw
      go_split_ands
      go_simp
      try with_reducible rfl
    try simp only [Act.put, List.setIfInBounds_toArray, List.set_cons_zero, List.set_cons_succ]
    refine wpAnyH_ready (rs := [4, 14]) (by kernel_rfl) (by simp) ?_
    refine AllReadyH.cons (o := { dst := some 22, op := Go.Op.call { callee := Go.Callee.value (Go.Operand.func 35), args := #[Go.Operand.const (Go.Value.slice none 0 0), Go.Operand.tmp 21, Go.Operand.const (Go.Value.int Go.IntKind.i64 4)], argTypes := #[40, 25, 3] }, type := 40, pos := "ref.go:65", after := #[{ on := 3, ground := Go.Ground.data }], guard := none }) rfl (fun K hK => ?_) (AllReadyH.cons (o := { dst := some 32, op := Go.Op.buildSlice 40 1 #[(0, Go.Operand.tmp 31)], type := 40, pos := "ref.go:65", after := #[{ on := 13, ground := Go.Ground.data }], guard := none }) rfl (fun K hK => ?_) AllReadyH.nil)
    · go_simp
      go_at_call 35
      refine (rput7_4 _ _ [] (x.hs) ⟨by omega, by omega⟩ (by decide) _ HQ.out.o5).mono ?_
      rw [HQ1.out]
      rintro eac uac ⟨Aac, cac, lac, rfl, ho, hn⟩
      have HQ := Lib.hid (HQ.out.step ho hn)
      clear ho hn
      refine hK.out _ _ (⟨HQ.out.box.cell 8, HQ.out.box.cell 9, HQ.out.box.cell 11, trivial⟩) (fun hHeld => ?_)
      clear hK K
      try simp only [Act.put, List.setIfInBounds_toArray, List.set_cons_zero, List.set_cons_succ]
      refine wpAnyH_ready (rs := [9, 14]) (by kernel_rfl) (by simp) ?_
      refine AllReadyH.cons (o := { dst := some 27, op := Go.Op.call { callee := Go.Callee.value (Go.Operand.func 35), args := #[Go.Operand.tmp 22, Go.Operand.tmp 26, Go.Operand.const (Go.Value.int Go.IntKind.i64 4)], argTypes := #[40, 25, 3] }, type := 40, pos := "ref.go:65", after := #[{ on := 4, ground := Go.Ground.data }, { on := 8, ground := Go.Ground.data }, { on := 4, ground := Go.Ground.chain }], guard := none }) rfl (fun K hK => ?_) (AllReadyH.cons (o := { dst := some 32, op := Go.Op.buildSlice 40 1 #[(0, Go.Operand.tmp 31)], type := 40, pos := "ref.go:65", after := #[{ on := 13, ground := Go.Ground.data }], guard := none }) rfl (fun K hK => ?_) AllReadyH.nil)
      · go_simp
        go_at_call 35
        refine (rput7_4 _ _ Q1 (x.hd) ⟨by omega, by omega⟩ (by have := HLQ1.out; omega) _ HQ.out.o5).mono ?_
        rw [HQ2.out]
        rintro eacc uacc ⟨Aacc, cacc, lacc, rfl, ho, hn⟩
        have HQ := Lib.hid (HQ.out.step ho hn)
        clear ho hn
        refine hK.out _ _ (⟨HQ.out.box.cell 8, HQ.out.box.cell 9, HQ.out.box.cell 11, trivial⟩) (fun hHeld => ?_)
        clear hK K
        try simp only [Act.put, List.setIfInBounds_toArray, List.set_cons_zero, List.set_cons_succ]
        refine wpAnyH_ready (rs := [14]) (by kernel_rfl) (by simp) ?_
        refine AllReadyH.cons (o := { dst := some 32, op := Go.Op.buildSlice 40 1 #[(0, Go.Operand.tmp 31)], type := 40, pos := "ref.go:65", after := #[{ on := 13, ground := Go.Ground.data }], guard := none }) rfl (fun K hK => ?_) AllReadyH.nil
        go_simp
        have LB : Hid (Lz (uacc.alloc (.cells #[.int .u8 p8] 5)) lacc (.slice (some ⟨uacc.heap.size, 0, none⟩) 1 1) [p8]) := Lib.hid (Lz.made (W := uacc) _ rfl rfl HQ.out.o5.lt)
        have HQ := Lib.hid (HQ.out.below (W' := (uacc.alloc (.cells #[.int .u8 p8] 5))) ((Below.refl _ uacc).alloc (Nat.le_refl _) _))
        refine hK.out _ _ (⟨HQ.out.box.cell 8, HQ.out.box.cell 9, HQ.out.box.cell 11, trivial⟩) (fun hHeld => ?_)
        clear hK K
        try simp only [Act.put, List.setIfInBounds_toArray, List.set_cons_zero, List.set_cons_succ]
        refine wpAnyH_ready (rs := [15]) (by kernel_rfl) (by simp) ?_
        refine AllReadyH.cons (o := { dst := some 33, op := Go.Op.call { callee := Go.Callee.builtin Go.Builtin.append, args := #[Go.Operand.tmp 27, Go.Operand.tmp 32], argTypes := #[40, 40] }, type := 40, pos := "ref.go:65", after := #[{ on := 9, ground := Go.Ground.data }, { on := 14, ground := Go.Ground.data }, { on := 9, ground := Go.Ground.chain }], guard := none }) rfl (fun K hK => ?_) AllReadyH.nil
        refine step_app5z rfl (.tmp 27) (.tmp 32) rfl HQ.out.o5 rfl LB.out rfl (by have := HLQ2.out; simp; omega) (some 33) rfl ?_
        rw [HQ3.out]
        intro Aaccbz caccbz waccbz laccbz ho hn
        have HQ := Lib.hid (HQ.out.step ho hn)
        clear ho hn
        refine hK.out _ _ (⟨HQ.out.box.cell 8, HQ.out.box.cell 9, HQ.out.box.cell 11, trivial⟩) (fun hHeld => ?_)
        clear hK K
        try simp only [Act.put, List.setIfInBounds_toArray, List.set_cons_zero, List.set_cons_succ]
        refine wpAnyH_take (i := 16) (oi := { dst := some 3, op := Go.Op.assign (Go.Operand.tmp 33), type := 40, pos := "ref.go:65", after := #[{ on := 15, ground := Go.Ground.data }, { on := 15, ground := Go.Ground.chain }, { on := 0, ground := Go.Ground.phase }, { on := 1, ground := Go.Ground.phase }, { on := 2, ground := Go.Ground.phase }, { on := 3, ground := Go.Ground.phase }, { on := 4, ground := Go.Ground.phase }, { on := 5, ground := Go.Ground.phase }, { on := 6, ground := Go.Ground.phase }, { on := 7, ground := Go.Ground.phase }, { on := 8, ground := Go.Ground.phase }, { on := 9, ground := Go.Ground.phase }, { on := 10, ground := Go.Ground.phase }, { on := 11, ground := Go.Ground.phase }, { on := 12, ground := Go.Ground.phase }, { on := 13, ground := Go.Ground.phase }, { on := 14, ground := Go.Ground.phase }, { on := 15, ground := Go.Ground.phase }], guard := none }) (v := ?_) rfl (by kernel_rfl) (by kernel_rfl) (by kernel_rfl) (fun _ _ _ h => h) (Or.inl ⟨by rfl, ?_⟩) (by assumption) ?_
        rotate_left
        · intro wS hSw
          try dsimp only at hSw
          go_split_ands
          go_simp
          try with_reducible rfl
        try simp only [Act.put, List.setIfInBounds_toArray, List.set_cons_zero, List.set_cons_succ]
        refine wpAnyH_done (by kernel_rfl) ?_ _
        go_wp2_with fail
        go_meet
        exact ⟨_, _, _, rfl, HQ.out⟩
      · go_simp
        have LB : Hid (Lz (uac.alloc (.cells #[.int .u8 p8] 5)) lac (.slice (some ⟨uac.heap.size, 0, none⟩) 1 1) [p8]) := Lib.hid (Lz.made (W := uac) _ rfl rfl HQ.out.o5.lt)
        have HQ := Lib.hid (HQ.out.below (W' := (uac.alloc (.cells #[.int .u8 p8] 5))) ((Below.refl _ uac).alloc (Nat.le_refl _) _))
        refine hK.out _ _ (⟨HQ.out.box.cell 8, HQ.out.box.cell 9, HQ.out.box.cell 11, trivial⟩) (fun hHeld => ?_)
        clear hK K
        try simp only [Act.put, List.setIfInBounds_toArray, List.set_cons_zero, List.set_cons_succ]
        refine wpAnyH_ready (rs := [9]) (by kernel_rfl) (by simp) ?_
        refine AllReadyH.cons (o := { dst := some 27, op := Go.Op.call { callee := Go.Callee.value (Go.Operand.func 35), args := #[Go.Operand.tmp 22, Go.Operand.tmp 26, Go.Operand.const (Go.Value.int Go.IntKind.i64 4)], argTypes := #[40, 25, 3] }, type := 40, pos := "ref.go:65", after := #[{ on := 4, ground := Go.Ground.data }, { on := 8, ground := Go.Ground.data }, { on := 4, ground := Go.Ground.chain }], guard := none }) rfl (fun K hK => ?_) AllReadyH.nil
        go_simp
        go_at_call 35
        refine (rput7_4 _ _ Q1 (x.hd) ⟨by omega, by omega⟩ (by have := HLQ1.out; omega) _ HQ.out.o5).mono ?_
        rw [HQ2.out]
        rintro eacbc uacbc ⟨Aacbc, cacbc, lacbc, rfl, ho, hn⟩
        have LB := Lib.hid (LB.out.next hn)
        have HQ := Lib.hid (HQ.out.step ho hn)
        clear ho hn
        refine hK.out _ _ (⟨HQ.out.box.cell 8, HQ.out.box.cell 9, HQ.out.box.cell 11, trivial⟩) (fun hHeld => ?_)
        clear hK K
        try simp only [Act.put, List.setIfInBounds_toArray, List.set_cons_zero, List.set_cons_succ]
        refine wpAnyH_ready (rs := [15]) (by kernel_rfl) (by simp) ?_
        refine AllReadyH.cons (o := { dst := some 33, op := Go.Op.call { callee := Go.Callee.builtin Go.Builtin.append, args := #[Go.Operand.tmp 27, Go.Operand.tmp 32], argTypes := #[40, 40] }, type := 40, pos := "ref.go:65", after := #[{ on := 9, ground := Go.Ground.data }, { on := 14, ground := Go.Ground.data }, { on := 9, ground := Go.Ground.chain }], guard := none }) rfl (fun K hK => ?_) AllReadyH.nil
        refine step_app5z rfl (.tmp 27) (.tmp 32) rfl HQ.out.o5 rfl LB.out rfl (by have := HLQ2.out; simp; omega) (some 33) rfl ?_
        rw [HQ3.out]
        intro Aacbcz cacbcz wacbcz lacbcz ho hn
        have HQ := Lib.hid (HQ.out.step ho hn)
        clear ho hn
        refine hK.out _ _ (⟨HQ.out.box.cell 8, HQ.out.box.cell 9, HQ.out.box.cell 11, trivial⟩) (fun hHeld => ?_)
        clear hK K
        try simp only [Act.put, List.setIfInBounds_toArray, List.set_cons_zero, List.set_cons_succ]
        refine wpAnyH_take (i := 16) (oi := { dst := some 3, op := Go.Op.assign (Go.Operand.tmp 33), type := 40, pos := "ref.go:65", after := #[{ on := 15, ground := Go.Ground.data }, { on := 15, ground := Go.Ground.chain }, { on := 0, ground := Go.Ground.phase }, { on := 1, ground := Go.Ground.phase }, { on := 2, ground := Go.Ground.phase }, { on := 3, ground := Go.Ground.phase }, { on := 4, ground := Go.Ground.phase }, { on := 5, ground := Go.Ground.phase }, { on := 6, ground := Go.Ground.phase }, { on := 7, ground := Go.Ground.phase }, { on := 8, ground := Go.Ground.phase }, { on := 9, ground := Go.Ground.phase }, { on := 10, ground := Go.Ground.phase }, { on := 11, ground := Go.Ground.phase }, { on := 12, ground := Go.Ground.phase }, { on := 13, ground := Go.Ground.phase }, { on := 14, ground := Go.Ground.phase }, { on := 15, ground := Go.Ground.phase }], guard := none }) (v := ?_) rfl (by kernel_rfl) (by kernel_rfl) (by kernel_rfl) (fun _ _ _ h => h) (Or.inl ⟨by rfl, ?_⟩) (by assumption) ?_
        rotate_left
        · intro wS hSw
          try dsimp only at hSw
          go_split_ands
          go_simp
          try with_reducible rfl
        try simp only [Act.put, List.setIfInBounds_toArray, List.set_cons_zero, List.set_cons_succ]
        refine wpAnyH_done (by kernel_rfl) ?_ _
        go_wp2_with fail
        go_meet
        exact ⟨_, _, _, rfl, HQ.out⟩
    · go_simp
      have LB : Hid (Lz (wc.drew.alloc (.cells #[.int .u8 p8] 5)) [] (.slice (some ⟨wc.drew.heap.size, 0, none⟩) 1 1) [p8]) := Lib.hid (Lz.made (W := wc.drew) _ rfl rfl HQ.out.o5.lt)
      have HQ := Lib.hid (HQ.out.below (W' := (wc.drew.alloc (.cells #[.int .u8 p8] 5))) ((Below.refl _ wc.drew).alloc (Nat.le_refl _) _))
      refine hK.out _ _ (⟨HQ.out.box.cell 8, HQ.out.box.cell 9, HQ.out.box.cell 11, trivial⟩) (fun hHeld => ?_)
      clear hK K
      try simp only [Act.put, List.setIfInBounds_toArray, List.set_cons_zero, List.set_cons_succ]
      refine wpAnyH_ready (rs := [4]) (by kernel_rfl) (by simp) ?_
      refine AllReadyH.cons (o := { dst := some 22, op := Go.Op.call { callee := Go.Callee.value (Go.Operand.func 35), args := #[Go.Operand.const (Go.Value.slice none 0 0), Go.Operand.tmp 21, Go.Operand.const (Go.Value.int Go.IntKind.i64 4)], argTypes := #[40, 25, 3] }, type := 40, pos := "ref.go:65", after := #[{ on := 3, ground := Go.Ground.data }], guard := none }) rfl (fun K hK => ?_) AllReadyH.nil
      go_simp
      go_at_call 35
      refine (rput7_4 _ _ [] (x.hs) ⟨by omega, by omega⟩ (by decide) _ HQ.out.o5).mono ?_
      rw [HQ1.out]
      rintro eabc uabc ⟨Aabc, cabc, labc, rfl, ho, hn⟩
      have LB := Lib.hid (LB.out.next hn)
      have HQ := Lib.hid (HQ.out.step ho hn)
      clear ho hn
      refine hK.out _ _ (⟨HQ.out.box.cell 8, HQ.out.box.cell 9, HQ.out.box.cell 11, trivial⟩) (fun hHeld => ?_)
      clear hK K
      try simp only [Act.put, List.setIfInBounds_toArray, List.set_cons_zero, List.set_cons_succ]
      refine wpAnyH_ready (rs := [9]) (by kernel_rfl) (by simp) ?_
      refine AllReadyH.cons (o := { dst := some 27, op := Go.Op.call { callee := Go.Callee.value (Go.Operand.func 35), args := #[Go.Operand.tmp 22, Go.Operand.tmp 26, Go.Operand.const (Go.Value.int Go.IntKind.i64 4)], argTypes := #[40, 25, 3] }, type := 40, pos := "ref.go:65", after := #[{ on := 4, ground := Go.Ground.data }, { on := 8, ground := Go.Ground.data }, { on := 4, ground := Go.Ground.chain }], guard := none }) rfl (fun K hK => ?_) AllReadyH.nil
      go_simp
      go_at_call 35
      refine (rput7_4 _ _ Q1 (x.hd) ⟨by omega, by omega⟩ (by have := HLQ1.out; omega) _ HQ.out.o5).mono ?_
      rw [HQ2.out]
      rintro eabcc uabcc ⟨Aabcc, cabcc, labcc, rfl, ho, hn⟩
      have LB := Lib.hid (LB.out.next hn)
      have HQ := Lib.hid (HQ.out.step ho hn)
      clear ho hn
      refine hK.out _ _ (⟨HQ.out.box.cell 8, HQ.out.box.cell 9, HQ.out.box.cell 11, trivial⟩) (fun hHeld => ?_)
      clear hK K
      try simp only [Act.put, List.setIfInBounds_toArray, List.set_cons_zero, List.set_cons_succ]
      refine wpAnyH_ready (rs := [15]) (by kernel_rfl) (by simp) ?_
      refine AllReadyH.cons (o := { dst := some 33, op := Go.Op.call { callee := Go.Callee.builtin Go.Builtin.append, args := #[Go.Operand.tmp 27, Go.Operand.tmp 32], argTypes := #[40, 40] }, type := 40, pos := "ref.go:65", after := #[{ on := 9, ground := Go.Ground.data }, { on := 14, ground := Go.Ground.data }, { on := 9, ground := Go.Ground.chain }], guard := none }) rfl (fun K hK => ?_) AllReadyH.nil
      refine step_app5z rfl (.tmp 27) (.tmp 32) rfl HQ.out.o5 rfl LB.out rfl (by have := HLQ2.out; simp; omega) (some 33) rfl ?_
      rw [HQ3.out]
      intro Aabccz cabccz wabccz labccz ho hn
      have HQ := Lib.hid (HQ.out.step ho hn)
      clear ho hn
      refine hK.out _ _ (⟨HQ.out.box.cell 8, HQ.out.box.cell 9, HQ.out.box.cell 11, trivial⟩) (fun hHeld => ?_)
      clear hK K
      try simp only [Act.put, List.setIfInBounds_toArray, List.set_cons_zero, List.set_cons_succ]
      refine wpAnyH_take (i := 16) (oi := { dst := some 3, op := Go.Op.assign (Go.Operand.tmp 33), type := 40, pos := "ref.go:65", after := #[{ on := 15, ground := Go.Ground.data }, { on := 15, ground := Go.Ground.chain }, { on := 0, ground := Go.Ground.phase }, { on := 1, ground := Go.Ground.phase }, { on := 2, ground := Go.Ground.phase }, { on := 3, ground := Go.Ground.phase }, { on := 4, ground := Go.Ground.phase }, { on := 5, ground := Go.Ground.phase }, { on := 6, ground := Go.Ground.phase }, { on := 7, ground := Go.Ground.phase }, { on := 8, ground := Go.Ground.phase }, { on := 9, ground := Go.Ground.phase }, { on := 10, ground := Go.Ground.phase }, { on := 11, ground := Go.Ground.phase }, { on := 12, ground := Go.Ground.phase }, { on := 13, ground := Go.Ground.phase }, { on := 14, ground := Go.Ground.phase }, { on := 15, ground := Go.Ground.phase }], guard := none }) (v := ?_) rfl (by kernel_rfl) (by kernel_rfl) (by kernel_rfl) (fun _ _ _ h => h) (Or.inl ⟨by rfl, ?_⟩) (by assumption) ?_
      rotate_left
      · intro wS hSw
        try dsimp only at hSw
        go_split_ands
        go_simp
        try with_reducible rfl
      try simp only [Act.put, List.setIfInBounds_toArray, List.set_cons_zero, List.set_cons_succ]
      refine wpAnyH_done (by kernel_rfl) ?_ _
      go_wp2_with fail
      go_meet
      exact ⟨_, _, _, rfl, HQ.out⟩
  case rest =>
  obtain ⟨A, c, l, rfl, hq⟩ := hcut
  clear HQ c2
  have HQ := Lib.hid hq
  clear hq
  go_upto_region 4 with fail
  go_cut [3] (fun v3 wx => ∃ A c l, v3 = .slice A (Q5).length c ∧ QB w x l A (Q5).length c (Q5) wx)
  case first =>
    have HQ := Lib.hid (HQ.out.below (Below.refl _ _).drew)
    refine wp_region_held_drew (S := (fun w' => w'.cell? ⟨w.heap.size, 12, none⟩ = some (.int .i64 x.sp) ∧ w'.cell? ⟨w.heap.size, 13, none⟩ = some (.int .i64 x.dp) ∧ True)) (by kernel_rfl) (⟨HQ.out.box.cell 12, HQ.out.box.cell 13, trivial⟩) (fun hHeld => ?_)
    refine wpAnyH_take (i := 0) (oi := { dst := some 34, op := Go.Op.move (Go.Operand.tmp 3), type := 40, pos := "ref.go:66", after := #[], guard := none }) (v := ?_) rfl (by kernel_rfl) (by kernel_rfl) (by kernel_rfl) (fun _ _ _ h => h) (Or.inl ⟨by rfl, ?_⟩) (by assumption) ?_
    rotate_left
    · intro wS hSw
      try dsimp only at hSw
      go_split_ands
      go_simp
      try with_reducible rfl
    try simp only [Act.put, List.setIfInBounds_toArray, List.set_cons_zero, List.set_cons_succ]
    refine wpAnyH_take (i := 1) (oi := { dst := some 35, op := Go.Op.fieldAddr 32 (Go.Operand.tmp 1) 4, type := 0, pos := "ref.go:66", after := #[], guard := none }) (v := ?_) rfl (by kernel_rfl) (by kernel_rfl) (by kernel_rfl) (fun _ _ _ h => h) (Or.inl ⟨by rfl, ?_⟩) (by assumption) ?_
    rotate_left
    · intro wS hSw
      try dsimp only at hSw
      go_split_ands
      go_simp
      try with_reducible rfl
    try simp only [Act.put, List.setIfInBounds_toArray, List.set_cons_zero, List.set_cons_succ]
    refine wpAnyH_take (i := 2) (oi := { dst := some 36, op := Go.Op.fieldAddr 30 (Go.Operand.tmp 35) 4, type := 0, pos := "ref.go:66", after := #[{ on := 1, ground := Go.Ground.data }], guard := none }) (v := ?_) rfl (by kernel_rfl) (by kernel_rfl) (by kernel_rfl) (fun _ _ _ h => h) (Or.inl ⟨by rfl, ?_⟩) (by assumption) ?_
    rotate_left
    · intro wS hSw
      try dsimp only at hSw
      go_split_ands
      go_simp
      try with_reducible rfl
    try simp only [Act.put, List.setIfInBounds_toArray, List.set_cons_zero, List.set_cons_succ]
    refine wpAnyH_take (i := 3) (oi := { dst := some 37, op := Go.Op.load 3 (Go.Operand.tmp 36), type := 3, pos := "ref.go:66", after := #[{ on := 2, ground := Go.Ground.data }], guard := none }) (v := ?_) rfl (by kernel_rfl) (by kernel_rfl) (by kernel_rfl) (fun _ _ _ h => h) (Or.inl ⟨by rfl, ?_⟩) (by assumption) ?_
    rotate_left
    · intro wS hSw
      try dsimp only at hSw
      go_split_ands
      go_simp
      try with_reducible rfl
    try simp only [Act.put, List.setIfInBounds_toArray, List.set_cons_zero, List.set_cons_succ]
    refine wpAnyH_take (i := 4) (oi := { dst := some 38, op := Go.Op.convert 3 25 (Go.Operand.tmp 37), type := 25, pos := "ref.go:66", after := #[{ on := 3, ground := Go.Ground.data }], guard := none }) (v := ?_) rfl (by kernel_rfl) (by kernel_rfl) (by kernel_rfl) (fun _ _ _ h => h) (Or.inl ⟨by rfl, ?_⟩) (by assumption) ?_
    rotate_left
    · intro wS hSw
      try dsimp only at hSw
      go_split_ands
      go_simp
      try with_reducible rfl
    try simp only [Act.put, List.setIfInBounds_toArray, List.set_cons_zero, List.set_cons_succ]
    refine wpAnyH_take (i := 6) (oi := { dst := some 40, op := Go.Op.fieldAddr 32 (Go.Operand.tmp 1) 4, type := 0, pos := "ref.go:66", after := #[], guard := none }) (v := ?_) rfl (by kernel_rfl) (by kernel_rfl) (by kernel_rfl) (fun _ _ _ h => h) (Or.inl ⟨by rfl, ?_⟩) (by assumption) ?_
    rotate_left
    · intro wS hSw
      try dsimp only at hSw
      go_split_ands
      go_simp
      try with_reducible rfl
    try simp only [Act.put, List.setIfInBounds_toArray, List.set_cons_zero, List.set_cons_succ]
    refine wpAnyH_take (i := 7) (oi := { dst := some 41, op := Go.Op.fieldAddr 30 (Go.Operand.tmp 40) 5, type := 0, pos := "ref.go:66", after := #[{ on := 6, ground := Go.Ground.data }], guard := none }) (v := ?_) rfl (by kernel_rfl) (by kernel_rfl) (by kernel_rfl) (fun _ _ _ h => h) (Or.inl ⟨by rfl, ?_⟩) (by assumption) ?_
    rotate_left
    · intro wS hSw
      try dsimp only at hSw
      go_split_ands
      go_simp
      try with_reducible rfl
    try simp only [Act.put, List.setIfInBounds_toArray, List.set_cons_zero, List.set_cons_succ]
    refine wpAnyH_take (i := 8) (oi := { dst := some 42, op := Go.Op.load 3 (Go.Operand.tmp 41), type := 3, pos := "ref.go:66", after := #[{ on := 7, ground := Go.Ground.data }], guard := none }) (v := ?_) rfl (by kernel_rfl) (by kernel_rfl) (by kernel_rfl) (fun _ _ _ h => h) (Or.inl ⟨by rfl, ?_⟩) (by assumption) ?_
    rotate_left
    · intro wS hSw
      try dsimp only at hSw
      go_split_ands
      go_simp
      try with_reducible rfl
    try simp only [Act.put, List.setIfInBounds_toArray, List.set_cons_zero, List.set_cons_succ]
    refine wpAnyH_take (i := 9) (oi := { dst := some 43, op := Go.Op.convert 3 25 (Go.Operand.tmp 42), type := 25, pos := "ref.go:66", after := #[{ on := 8, ground := Go.Ground.data }], guard := none }) (v := ?_) rfl (by kernel_rfl) (by kernel_rfl) (by kernel_rfl) (fun _ _ _ h => h) (Or.inl ⟨by rfl, ?_⟩) (by assumption) ?_
    rotate_left
    · intro wS hSw
      try dsimp only at hSw
      go_split_ands
      go_simp
      try with_reducible rfl
    try simp only [Act.put, List.setIfInBounds_toArray, List.set_cons_zero, List.set_cons_succ]
    refine wpAnyH_ready (rs := [5]) (by kernel_rfl) (by simp) ?_
    refine AllReadyH.cons (o := { dst := some 39, op := Go.Op.call { callee := Go.Callee.value (Go.Operand.func 35), args := #[Go.Operand.tmp 34, Go.Operand.tmp 38, Go.Operand.const (Go.Value.int Go.IntKind.i64 2)], argTypes := #[40, 25, 3] }, type := 40, pos := "ref.go:66", after := #[{ on := 0, ground := Go.Ground.data }, { on := 4, ground := Go.Ground.data }], guard := none }) rfl (fun K hK => ?_) AllReadyH.nil
    go_simp
    go_at_call 35
    refine (rput7_2 _ _ Q3 (s64) ⟨by omega, by omega⟩ (by have := HLQ3.out; omega) _ HQ.out.o5).mono ?_
    rw [HQ4.out]
    rintro e u5 ⟨A5, c5, l5, rfl, ho, hn⟩
    have HQ := Lib.hid (HQ.out.step ho hn)
    clear ho hn
    refine hK.out _ _ (⟨HQ.out.box.cell 12, HQ.out.box.cell 13, trivial⟩) (fun hHeld => ?_)
    clear hK K
    try simp only [Act.put, List.setIfInBounds_toArray, List.set_cons_zero, List.set_cons_succ]
    refine wpAnyH_ready (rs := [10]) (by kernel_rfl) (by simp) ?_
    refine AllReadyH.cons (o := { dst := some 44, op := Go.Op.call { callee := Go.Callee.value (Go.Operand.func 35), args := #[Go.Operand.tmp 39, Go.Operand.tmp 43, Go.Operand.const (Go.Value.int Go.IntKind.i64 2)], argTypes := #[40, 25, 3] }, type := 40, pos := "ref.go:66", after := #[{ on := 5, ground := Go.Ground.data }, { on := 9, ground := Go.Ground.data }, { on := 5, ground := Go.Ground.chain }], guard := none }) rfl (fun K hK => ?_) AllReadyH.nil
    go_simp
    go_at_call 35
    refine (rput7_2 _ _ Q4 (d64) ⟨by omega, by omega⟩ (by have := HLQ4.out; omega) _ HQ.out.o5).mono ?_
    rw [HQ5.out]
    rintro e u10 ⟨A10, c10, l10, rfl, ho, hn⟩
    have HQ := Lib.hid (HQ.out.step ho hn)
    clear ho hn
    refine hK.out _ _ (⟨HQ.out.box.cell 12, HQ.out.box.cell 13, trivial⟩) (fun hHeld => ?_)
    clear hK K
    try simp only [Act.put, List.setIfInBounds_toArray, List.set_cons_zero, List.set_cons_succ]
    refine wpAnyH_take (i := 11) (oi := { dst := some 3, op := Go.Op.assign (Go.Operand.tmp 44), type := 40, pos := "ref.go:66", after := #[{ on := 10, ground := Go.Ground.data }, { on := 10, ground := Go.Ground.chain }, { on := 0, ground := Go.Ground.phase }, { on := 1, ground := Go.Ground.phase }, { on := 2, ground := Go.Ground.phase }, { on := 3, ground := Go.Ground.phase }, { on := 4, ground := Go.Ground.phase }, { on := 5, ground := Go.Ground.phase }, { on := 6, ground := Go.Ground.phase }, { on := 7, ground := Go.Ground.phase }, { on := 8, ground := Go.Ground.phase }, { on := 9, ground := Go.Ground.phase }, { on := 10, ground := Go.Ground.phase }], guard := none }) (v := ?_) rfl (by kernel_rfl) (by kernel_rfl) (by kernel_rfl) (fun _ _ _ h => h) (Or.inl ⟨by rfl, ?_⟩) (by assumption) ?_
    rotate_left
    · intro wS hSw
      try dsimp only at hSw
      go_split_ands
      go_simp
      try with_reducible rfl
    try simp only [Act.put, List.setIfInBounds_toArray, List.set_cons_zero, List.set_cons_succ]
    refine wpAnyH_done (by kernel_rfl) ?_ _
    go_wp2_with fail
    go_meet
    exact ⟨_, _, _, rfl, HQ.out⟩
  case rest =>
  obtain ⟨A, c, l, rfl, hq⟩ := hcut
  clear HQ
  have HQ := Lib.hid hq
  clear hq
  go_wp2_with fail
  refine (HHs.out _ _ (HFl.out ▸ HQ.out.o5.arr)).mono ?_
  rintro e w9 ⟨rfl, rfl⟩
  have HBf := Lib.hid HQ.out.lo
  clear HQ
  go_wp2_with fail
  go_ret
  exact ⟨rfl, HBf.out⟩

theorem rentropy_any (x : FR) (hx : x.ty) (w : World) : Calls Try.prog 20 #[.agg x.cs] w fun e w' => e = .returned (.int .i64 (ent x)) ∧ Below w.heap.size w w' := by
  by_cases hk : x.k = 2
  · exact rent_ip x hx hk w
  · exact rent_no x hx hk w

end Go.Proofs.Ytgdfpmnbofnjfaa
