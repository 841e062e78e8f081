/- PacketOnly: the walk; written by gen_pkw3.py. -/
import Derived.Test.YtnmbmogjgkgjjaaPkM
import Derived.Test.YtnmbmogjgkgjjaaPkH
namespace Go.Proofs.Ytnmbmogjgkgjjaa
open Go.RowKit Go.Shelf
set_option linter.unusedVariables false
set_option linter.unusedSimpArgs false
set_option maxRecDepth 100000

theorem Row.own {w : World} {h cap base : Nat} {bs : List Int} (H : Row w h cap bs) (hb : base ≤ h) : w.ownsRow base 5 1 (.slice (some ⟨h, 0, none⟩) bs.length cap) bs.length (u8s bs) := by
  obtain ⟨cur, h1, h2, h3, h4, h5⟩ := H
  refine ⟨by simp, .inr ⟨h, cap, cur, rfl, hb, h1, h4, h5, by omega, ?_⟩⟩
  rw [Nat.mul_one]
  exact h3
theorem run_append_none (w : World) (ad : Addr) (n c : Nat) (ty : TypeId) (h : n ≤ c) :
    (Builtin.append_ #[23, 23] ty #[.slice (some ad) n c, .slice none 0 0]).run Try.prog w = .ok (.slice (some ad) n c) w := by
  obtain ⟨i0, hi, hz0, hz1, hz2⟩ := info_parts info_u8
  simp [Builtin.append_, run_underlying Try.underlying23, sizeOf, typeInfo, hi, Builtin.lenOf, Builtin.firstCells, loadCells, loadCellsFrom, storeCells, h]

/-- Bytes appended to a row of the call's own. -/
theorem app_arr {w : World} {b n cap base : Nat} {xs ys : List Int} (H : Row w b cap xs) (hn : xs.length = n) (v2 : Value) (h2 : Arr w v2 ys) (hm1 : xs.length ≤ 1000000) (hm2 : ys.length ≤ 1000000) (hb : base ≤ b) (hbw : base ≤ w.heap.size)
    {ops : Array Oper} {rest : List Oper} {o : Oper} {a : Act} {Q : Exit → Act → World → Prop} (hg : o.guard = none) (s x : Operand)
    (hop : o.op = Op.call { callee := Callee.builtin Builtin.append, args := #[s, x], argTypes := #[23, 23] })
    (hs : a.eval s = .slice (some ⟨b, 0, none⟩) n cap) (hx : a.eval x = v2)
    (h : ∀ v' w', Arr w' v' (xs ++ ys) → Below base w w' → wpList Try.prog ops Q rest (a.put o.dst v') w') : wpList Try.prog ops Q (o :: rest) a w := by
  subst hn
  obtain ⟨i0, hi, hz0, hz1, hz2⟩ := info_parts info_u8
  rcases h2 with ⟨rfl, rfl⟩ | ⟨ad, c, rfl, hc⟩
  · have hcap : xs.length ≤ cap := by obtain ⟨_, _, _, _, h4, _⟩ := H; exact h4
    refine wpList_plain hg fun K hK => ?_
    refine Lib.wp_append_run w s x _ _ hop _ _ hs hx _ _ (run_append_none w _ _ _ _ hcap) ?_
    refine hK _ _ (h _ _ ?_ (Below.refl _ _))
    rw [List.append_nil]
    exact row_arr H rfl
  · refine wpList_append_own w hg s x 23 hop base 5 i0 (.int .u8 0) 1 1 Try.underlying23 hi hz0 hz1 hz2 rfl (by decide) _ _ _ hs (H.own hb) ad ys.length c (u8s ys) hx (by simp) (fun j u hu => hc j u hu) (u8s_one _) (by unfold maxLen; omega) (by omega) hbw ?_
    intro v' w' hown hgrow _
    have hl : (xs ++ ys).length = xs.length + ys.length := by simp
    have hbl : Below base w w' := (Below.refl base w).grown hgrow hbw (fun k e => by cases e; exact hb)
    refine h v' w' ?_ hbl
    by_cases hnil : v' = .slice none 0 0
    · subst hnil
      have h0 : xs.length + ys.length = 0 := by
        rcases hown.2 with ⟨_, h0⟩ | ⟨g, _, _, e, _⟩
        · exact h0
        · cases e
      have hx0 : xs = [] := List.eq_nil_of_length_eq_zero (by omega)
      have hy0 : ys = [] := List.eq_nil_of_length_eq_zero (by omega)
      exact .inl ⟨rfl, by rw [hx0, hy0]; rfl⟩
    · have hown2 : w'.ownsRow base 5 1 v' (xs.length + ys.length) (u8s (xs ++ ys)) := by
        rw [show u8s (xs ++ ys) = u8s xs ++ u8s ys from List.map_append]
        exact hown
      obtain ⟨g, cp, rfl, _, hr⟩ := own_row hown2 hnil hl
      exact row_arr hr hl

theorem only_ty {bs : List Int} (hby : ∀ v ∈ bs, 0 ≤ v ∧ v ≤ 255) (h : (fread bs).2.1 = 0) : (fread bs).1.ty := by
  rw [(fread_ok h).2.2.2.2.2]
  exact dcP_ty hby

set_option maxHeartbeats 2000000 in
theorem only_big (A : Option Addr) (c : Nat) (bs : List Int) (l : Int) (A2 : Option Addr) (c2 : Nat) (ms : List Int) (w : World) (hA : Arr w (.slice A bs.length c) bs) (hby : ∀ v ∈ bs, 0 ≤ v ∧ v ≤ 255) (hcap : bs.length ≤ c) (hM : Arr w (.slice A2 ms.length c2) ms) (hmy : ∀ v ∈ ms, 0 ≤ v ∧ v ≤ 255) (hn : 300 < bs.length) : Calls Try.prog 7 #[.slice A bs.length c, .int .i64 l, .slice A2 ms.length c2] w fun e w' => e = .returned (.bool true) ∧ Below w.heap.size w w' := by
  obtain ⟨n, hne⟩ : ∃ n, bs.length = n := ⟨_, rfl⟩
  obtain ⟨m, hme⟩ : ∃ m, ms.length = m := ⟨_, rfl⟩
  rw [hne] at hn ⊢
  rw [hme]
  clear hne hme hA hby hcap hM hmy
  have e1 : (300 : Int) < (n : Int) := by omega
  go_enter Try.func7, Try.ntmps7
  go_wp2_with fail
  refine (lives7 _).mono ?_
  rintro e w1 ⟨rfl, hb⟩
  have HL := Lib.hid hb
  clear hb
  go_wp2_with fail
  go_ret
  exact ⟨rfl, HL.out⟩

set_option maxHeartbeats 2000000 in
theorem only_big2 (A : Option Addr) (c : Nat) (bs : List Int) (l : Int) (A2 : Option Addr) (c2 : Nat) (ms : List Int) (w : World) (hA : Arr w (.slice A bs.length c) bs) (hby : ∀ v ∈ bs, 0 ≤ v ∧ v ≤ 255) (hcap : bs.length ≤ c) (hM : Arr w (.slice A2 ms.length c2) ms) (hmy : ∀ v ∈ ms, 0 ≤ v ∧ v ≤ 255) (hn : bs.length ≤ 300) (hm : 300 < ms.length) : Calls Try.prog 7 #[.slice A bs.length c, .int .i64 l, .slice A2 ms.length c2] w fun e w' => e = .returned (.bool true) ∧ Below w.heap.size w w' := by
  obtain ⟨n, hne⟩ : ∃ n, bs.length = n := ⟨_, rfl⟩
  obtain ⟨m, hme⟩ : ∃ m, ms.length = m := ⟨_, rfl⟩
  rw [hne] at hn ⊢
  rw [hme] at hm ⊢
  clear hne hme hA hby hcap hM hmy
  have e1 : ¬ ((300 : Int) < (n : Int)) := by omega
  have e2 : (300 : Int) < (m : Int) := by omega
  go_enter Try.func7, Try.ntmps7
  go_wp2_with fail
  refine (lives7 _).mono ?_
  rintro e w1 ⟨rfl, hb⟩
  have HL := Lib.hid hb
  clear hb
  go_wp2_with fail
  go_ret
  exact ⟨rfl, HL.out⟩

set_option maxHeartbeats 2000000 in
theorem only_bad (A : Option Addr) (c : Nat) (bs : List Int) (l : Int) (A2 : Option Addr) (c2 : Nat) (ms : List Int) (w : World) (hA : Arr w (.slice A bs.length c) bs) (hby : ∀ v ∈ bs, 0 ≤ v ∧ v ≤ 255) (hcap : bs.length ≤ c) (hM : Arr w (.slice A2 ms.length c2) ms) (hmy : ∀ v ∈ ms, 0 ≤ v ∧ v ≤ 255) (hn : bs.length ≤ 300) (hm : ms.length ≤ 300) (hf : (fread bs).2.1 ≠ 0) : Calls Try.prog 7 #[.slice A bs.length c, .int .i64 l, .slice A2 ms.length c2] w fun e w' => e = .returned (.bool true) ∧ Below w.heap.size w w' := by
  obtain ⟨hX, hi0, hi1⟩ := fread_bad hf
  obtain ⟨er, her⟩ : ∃ er, (fread bs).2.1 = er := ⟨_, rfl⟩
  obtain ⟨i, hi⟩ : ∃ i, (fread bs).2.2 = i := ⟨_, rfl⟩
  have HRd : Hid (∀ W, Below w.heap.size w W → Calls Try.prog 11 #[.slice A bs.length c] W fun e w' => e = .returned (.tuple #[.agg #[.int .u64 0, .int .u64 0, .int .i64 0, .int .i64 0, .int .u64 0, .int .u32 0, .int .u64 0, .int .u32 0, .int .u32 0, .int .u32 0, .int .i64 0, .int .i64 0, .int .i64 0, .int .i64 0, .int .u64 0], .agg #[.int .i64 er, .int .i64 i]]) ∧ Below W.heap.size W w') := Lib.hid (fun W hb => by
    have h := read_any _ bs W (hA.below hb) hby
    unfold ReadsTo at h
    rw [hX, her, hi] at h
    exact h)
  rw [her] at hf
  rw [hi] at hi0 hi1
  have hne : (er != 0) = true := by simpa using hf
  have hEq := eql_fr fr0 fr0
  rw [FR.same_self] at hEq
  simp only [FR.cs, fr0] at hEq
  obtain ⟨n, hne⟩ : ∃ n, bs.length = n := ⟨_, rfl⟩
  obtain ⟨m, hme⟩ : ∃ m, ms.length = m := ⟨_, rfl⟩
  rw [hne] at HRd hn hi1 ⊢
  rw [hme] at hm ⊢
  clear hne hme hA hby hcap hM hmy hf hX her hi
  have e1 : ¬ ((300 : Int) < (n : Int)) := by omega
  have e2 : ¬ ((300 : Int) < (m : Int)) := by omega
  go_enter Try.func7, Try.ntmps7
  go_wp2_with fail
  refine (lives7 _).mono ?_
  rintro e w1 ⟨rfl, hb⟩
  have HL := Lib.hid hb
  clear hb
  go_wp2_with fail
  refine (HRd.out _ HL.out).mono ?_
  rintro e w2 ⟨rfl, hb⟩
  have HL2 := Lib.hid (HL.out.trans (hb.mono HL.out.size))
  clear hb HL
  have hfin : Below w.heap.size w ((w2.alloc (.cells #[.int .u64 0, .int .u64 0, .int .i64 0, .int .i64 0, .int .u64 0, .int .u32 0, .int .u64 0, .int .u32 0, .int .u32 0, .int .u32 0, .int .i64 0, .int .i64 0, .int .i64 0, .int .i64 0, .int .u64 0] 36)).alloc (.cells #[.int .i64 er, .int .i64 i] 38)) := (HL2.out.alloc HL2.out.size _).alloc (by have := HL2.out.size; simp; omega) _
  have HFin := Lib.hid hfin
  clear hfin
  go_wp2_with fail
  go_ret
  exact ⟨rfl, HFin.out⟩

set_option maxHeartbeats 2000000 in
theorem only_ok0 (A : Option Addr) (c : Nat) (bs : List Int) (l : Int) (A2 : Option Addr) (c2 : Nat) (ms : List Int) (w : World) (hA : Arr w (.slice A bs.length c) bs) (hby : ∀ v ∈ bs, 0 ≤ v ∧ v ≤ 255) (hcap : bs.length ≤ c) (hM : Arr w (.slice A2 ms.length c2) ms) (hmy : ∀ v ∈ ms, 0 ≤ v ∧ v ≤ 255) (hn : bs.length ≤ 300) (hm : ms.length ≤ 300) (hf : (fread bs).2.1 = 0) (h0 : ms.length = 0) : Calls Try.prog 7 #[.slice A bs.length c, .int .i64 l, .slice A2 ms.length c2] w fun e w' => e = .returned (.bool true) ∧ Below w.heap.size w w' := by
  have hfr : ∀ X : FR, (fread bs).1 = X → fread bs = (X, 0, 0) := fun X hX => by
    have h := fread_ok hf
    rw [← hX]
    exact Prod.ext rfl (Prod.ext hf h.2.2.2.2.1)
  have hty := only_ty hby hf
  obtain ⟨hz1, hz2, hck, hen, _, _⟩ := fread_ok hf
  have hpos := sz_pos hz1 hz2
  obtain ⟨X, hX⟩ : ∃ X, (fread bs).1 = X := ⟨_, rfl⟩
  have hfX := hfr X hX
  rw [hX] at hty hck hen
  rcases hA with ⟨_, h⟩ | ⟨ad, c', hv, h2⟩
  · rw [h] at hpos; simp at hpos
  injection hv with hv1 hv2 hv3
  subst hv1 hv3
  obtain ⟨bb, o, rfl, hs⟩ := h2.plain hpos
  have hA : Arr w (.slice (some ⟨bb, o, none⟩) bs.length c) bs := .inr ⟨_, c, rfl, h2⟩
  have hblt := cell_block (hs 0 hpos)
  have HRd : Hid (∀ W, Below w.heap.size w W → Calls Try.prog 11 #[.slice (some ⟨bb, o, none⟩) bs.length c] W fun e w' => e = .returned (.tuple #[.agg #[.int .u64 X.s, .int .u64 X.d, .int .i64 X.k, .int .i64 X.op, .int .u64 X.sm, .int .u32 X.si, .int .u64 X.tm, .int .u32 X.ti, .int .u32 X.hs, .int .u32 X.hd, .int .i64 X.tl, .int .i64 X.pr, .int .i64 X.sp, .int .i64 X.dp, .int .u64 X.da], .agg #[.int .i64 0, .int .i64 0]]) ∧ Below W.heap.size W w') := Lib.hid (fun W hb => by
    have h := read_any _ bs W (hA.below hb) hby
    unfold ReadsTo at h
    rw [hfX] at h
    exact h)
  have HBt : Hid (∀ W : World, Calls Try.prog 10 #[.agg #[.int .u64 X.s, .int .u64 X.d, .int .i64 X.k, .int .i64 X.op, .int .u64 X.sm, .int .u32 X.si, .int .u64 X.tm, .int .u32 X.ti, .int .u32 X.hs, .int .u32 X.hd, .int .i64 X.tl, .int .i64 X.pr, .int .i64 X.sp, .int .i64 X.dp, .int .u64 X.da]] W fun e w' => ∃ b c, e = .returned (.tuple #[.slice (some ⟨b, 0, none⟩) bs.length c, .int .i64 0]) ∧ Row w' b c bs ∧ W.heap.size ≤ b ∧ Below W.heap.size W w') := Lib.hid (fun W => by
    have h := bytes_yes X hty hck W
    unfold Enc at h
    rw [hen] at h
    exact h)
  obtain ⟨k, hk⟩ := Int.eq_ofNat_of_zero_le (Int.emod_nonneg l (show (bs.length : Int) ≠ 0 by omega))
  have hk2 : k < bs.length := by have := Int.emod_lt_of_pos l (show (0 : Int) < bs.length by omega); omega
  have HK := Lib.hid hk
  have HRc : Hid (∀ W, Below w.heap.size w W → Calls Try.prog 11 #[.slice (some ⟨bb, o, none⟩) k c] W fun e w' => e = .returned (.tuple #[.agg #[.int .u64 0, .int .u64 0, .int .i64 0, .int .i64 0, .int .u64 0, .int .u32 0, .int .u64 0, .int .u32 0, .int .u32 0, .int .u32 0, .int .i64 0, .int .i64 0, .int .i64 0, .int .i64 0, .int .u64 0], .agg #[.int .i64 4, .int .i64 k]]) ∧ Below W.heap.size W w') := Lib.hid (fun W hb => by
    have hl : (bs.take k).length = k := by simp; omega
    have hsl : Sl W bb o (bs.take k) := fun j hj => by
      have hj2 : j < bs.length := by omega
      rw [(hb.cell (p := ⟨bb, o + j, none⟩) hblt).trans (hs j hj2)]
      simp
    have h := read_any (.slice (some ⟨bb, o, none⟩) k c) (bs.take k) W (.inr ⟨_, c, by rw [hl], Sl.at_ hsl⟩) (fun v hv => hby v (List.mem_of_mem_take hv))
    unfold ReadsTo at h
    rw [fread_cut hf k hk2] at h
    exact h)
  have HRm : Hid (∀ (W : World) (v : Value), Arr W v (bs ++ ms) → ∃ X2 : FR, Calls Try.prog 11 #[v] W fun e w' => e = .returned (.tuple #[.agg #[.int .u64 X2.s, .int .u64 X2.d, .int .i64 X2.k, .int .i64 X2.op, .int .u64 X2.sm, .int .u32 X2.si, .int .u64 X2.tm, .int .u32 X2.ti, .int .u32 X2.hs, .int .u32 X2.hd, .int .i64 X2.tl, .int .i64 X2.pr, .int .i64 X2.sp, .int .i64 X2.dp, .int .u64 X2.da], .agg #[.int .i64 0, .int .i64 0]]) ∧ Below W.heap.size W w') := Lib.hid (fun W v hv => by
    have h := read_any v (bs ++ ms) W hv (fun v hv => by
      rcases List.mem_append.1 hv with h | h
      · exact hby v h
      · exact hmy v h)
    unfold ReadsTo at h
    rw [List.eq_nil_of_length_eq_zero h0] at h
    rw [List.append_nil, hfX] at h
    exact ⟨X, h⟩)
  have HStr : Hid (∀ W : World, Arr W (.slice (some ⟨bb, o, none⟩) bs.length c) bs → (convert 23 9 (.slice (some ⟨bb, o, none⟩) bs.length c)).run Try.prog W = .ok (.string (strOfNums bs)) W) := Lib.hid (fun W h => arr_string h hpos)
  have HStr2 : Hid (∀ (W : World) (b c : Nat), Row W b c bs → (convert 23 9 (.slice (some ⟨b, 0, none⟩) bs.length c)).run Try.prog W = .ok (.string (strOfNums bs)) W) := Lib.hid (fun W b c h => arr_string (row_arr h rfl) hpos)
  have HOwn : Hid (∀ W, Below w.heap.size w W → Calls Try.prog 12 #[.slice (some ⟨bb, o, none⟩) bs.length c] W fun e w' => (∃ h' c', e = .returned (.slice (some ⟨h', 0, none⟩) bs.length c') ∧ Row w' h' c' bs ∧ W.heap.size ≤ h') ∧ Below W.heap.size W w') := Lib.hid (fun W hb => own_any _ bs W (hA.below hb) (by omega))
  have HA := Lib.hid hA
  have HM := Lib.hid (h0 ▸ hM)
  have HSm := Lib.hid (And.intro hn hm)
  have hF1 : ∀ W : World, (binOp .eql 38 (.agg #[.int .i64 4, .int .i64 (k : Int)]) (.agg #[.int .i64 4, .int .i64 (k : Int)])).run Try.prog W = .ok (.bool true) W := fun W => by
    have h := eql_ft 4 k 4 k W
    simpa using h
  have hF2 : ∀ W : World, (binOp .eql 38 (.agg #[.int .i64 0, .int .i64 0]) (.agg #[.int .i64 0, .int .i64 0])).run Try.prog W = .ok (.bool true) W := fun W => by
    have h := eql_ft 0 0 0 0 W
    simpa using h
  obtain ⟨S, hS⟩ : ∃ S, strOfNums bs = S := ⟨_, rfl⟩
  rw [hS] at HStr HStr2
  obtain ⟨n, hne⟩ : ∃ n, bs.length = n := ⟨_, rfl⟩
  have HNe := Lib.hid hne
  rw [hne] at HRd HBt HStr HStr2 HOwn HK HA hn hk2 hcap hpos ⊢
  rw [h0]
  clear hne hA hby hM hmy hf hX hfX hfr hty hz1 hz2 hck hen h2 hs hS hk
  have e1 : ¬ ((300 : Int) < (n : Int)) := by omega
  have hkc : (k : Int) ≤ (c : Int) := by omega
  go_enter Try.func7, Try.ntmps7
  go_wp2_with fail
  refine (lives7 _).mono ?_
  rintro e w1 ⟨rfl, hb⟩
  have HL := Lib.hid hb
  clear hb
  go_wp2_with fail
  refine (HRd.out _ HL.out).mono ?_
  rintro e w2 ⟨rfl, hb⟩
  have HL2 := Lib.hid (HL.out.trans (hb.mono HL.out.size))
  clear hb HL
  have HL3 : Hid (Below w.heap.size w ((w2.alloc (.cells #[.int .u64 X.s, .int .u64 X.d, .int .i64 X.k, .int .i64 X.op, .int .u64 X.sm, .int .u32 X.si, .int .u64 X.tm, .int .u32 X.ti, .int .u32 X.hs, .int .u32 X.hd, .int .i64 X.tl, .int .i64 X.pr, .int .i64 X.sp, .int .i64 X.dp, .int .u64 X.da] 36)).alloc (.cells #[.int .i64 0, .int .i64 0] 38))) := Lib.hid ((HL2.out.alloc HL2.out.size _).alloc (by have := HL2.out.size; simp; omega) _)
  clear HL2
  go_wp2_with fail
  refine (HBt.out _).mono ?_
  rintro e w3 ⟨b3, c3, rfl, hrow, hsz, hb⟩
  have hst2 := HStr2.out _ _ _ hrow
  have HL4 := Lib.hid (HL3.out.trans (hb.mono HL3.out.size))
  have hst1 := HStr.out _ (HA.out.below HL4.out)
  clear hrow hsz hb HL3
  go_wp2_with fail
  refine (pick_any l (n : Int) (by omega) (by omega) _).mono ?_
  rintro e w9 ⟨rfl, rfl⟩
  rw [HK.out]
  clear hst1 hst2
  go_wp2_with fail
  refine (HRc.out _ HL4.out).mono ?_
  rintro e w4 ⟨rfl, hb⟩
  have HL5 := Lib.hid (HL4.out.trans (hb.mono HL4.out.size))
  clear hb HL4
  obtain ⟨W5, hW5⟩ : ∃ W5, ((w4.alloc (.cells #[.int .u64 0, .int .u64 0, .int .i64 0, .int .i64 0, .int .u64 0, .int .u32 0, .int .u64 0, .int .u32 0, .int .u32 0, .int .u32 0, .int .i64 0, .int .i64 0, .int .i64 0, .int .i64 0, .int .u64 0] 36)).alloc (.cells #[.int .i64 4, .int .i64 k] 38)) = W5 := ⟨_, rfl⟩
  have HL6 : Hid (Below w.heap.size w W5) := Lib.hid (hW5 ▸ (HL5.out.alloc HL5.out.size _).alloc (by have := HL5.out.size; simp; omega) _)
  have HF6 : Hid (Has W5 (w4.heap.size + 1) 38 #[.int .i64 4, .int .i64 k]) := Lib.hid (by
    have h1 := Has.new (w4.alloc (.cells #[.int .u64 0, .int .u64 0, .int .i64 0, .int .i64 0, .int .u64 0, .int .u32 0, .int .u64 0, .int .u32 0, .int .u32 0, .int .u32 0, .int .i64 0, .int .i64 0, .int .i64 0, .int .i64 0, .int .u64 0] 36)) 38 #[.int .i64 4, .int .i64 (k : Int)]
    rw [World.size_alloc, hW5] at h1
    exact h1)
  clear HL5
  go_upto_region 13 with fail
  try rw [hW5]
  clear hW5
  go_wp2_with fail
  refine (HOwn.out _ HL6.out).mono ?_
  rintro e w6 ⟨⟨h7, c7, rfl, hrow, hsz⟩, hb⟩
  have HRow := Lib.hid hrow
  have HB7 := Lib.hid (And.intro hsz hb)
  clear hrow hsz hb
  go_wp2_with (refine app_arr HRow.out HNe.out _ (HM.out.below (HL6.out.trans (HB7.out.2.mono HL6.out.size))) (by rw [HNe.out]; have := HSm.out.1; omega) (by have := HSm.out.2; omega) (base := W5.heap.size) HB7.out.1 HB7.out.2.size rfl (.tmp 75) (.tmp 76) rfl rfl rfl ?_; intro v8 w8 ha8 hb8; have HA8 := Lib.hid ha8; have HB8 := Lib.hid (HB7.out.2.trans hb8); clear ha8 hb8)
  obtain ⟨X2, hrd2⟩ := HRm.out _ _ HA8.out
  have HRd2 := Lib.hid hrd2
  clear hrd2
  refine HRd2.out.mono ?_
  rintro e w9 ⟨rfl, hb⟩
  have hsz5 : Below W5.heap.size W5 w9 := HB8.out.trans (hb.mono HB8.out.size)
  have HF9 := Lib.hid (HF6.out.below hsz5)
  have HL9 := Lib.hid (HL6.out.trans (hsz5.mono HL6.out.size))
  clear hb hsz5 HA8 HB8 HB7 HRow HF6 HL6
  have f0 := HF9.out.cell 0
  have f1 := HF9.out.cell 1
  simp only [List.getElem?_toArray, List.getElem?_cons_zero, List.getElem?_cons_succ] at f0 f1
  have hlt := HF9.out.lt
  have hlt2 : w4.heap.size < w9.heap.size := by omega
  have hfin : Below w.heap.size w ((w9.alloc (.cells #[.int .u64 X2.s, .int .u64 X2.d, .int .i64 X2.k, .int .i64 X2.op, .int .u64 X2.sm, .int .u32 X2.si, .int .u64 X2.tm, .int .u32 X2.ti, .int .u32 X2.hs, .int .u32 X2.hd, .int .i64 X2.tl, .int .i64 X2.pr, .int .i64 X2.sp, .int .i64 X2.dp, .int .u64 X2.da] 36)).alloc (.cells #[.int .i64 0, .int .i64 0] 38)) := (HL9.out.alloc HL9.out.size _).alloc (by have := HL9.out.size; simp; omega) _
  have HFin := Lib.hid hfin
  clear hfin
  go_wp2_with fail
  go_ret
  exact ⟨rfl, HFin.out⟩

set_option maxHeartbeats 2000000 in
theorem only_ok1 (A : Option Addr) (c : Nat) (bs : List Int) (l : Int) (A2 : Option Addr) (c2 : Nat) (ms : List Int) (w : World) (hA : Arr w (.slice A bs.length c) bs) (hby : ∀ v ∈ bs, 0 ≤ v ∧ v ≤ 255) (hcap : bs.length ≤ c) (hM : Arr w (.slice A2 ms.length c2) ms) (hmy : ∀ v ∈ ms, 0 ≤ v ∧ v ≤ 255) (hn : bs.length ≤ 300) (hm : ms.length ≤ 300) (hf : (fread bs).2.1 = 0) (h0 : 0 < ms.length) : Calls Try.prog 7 #[.slice A bs.length c, .int .i64 l, .slice A2 ms.length c2] w fun e w' => e = .returned (.bool true) ∧ Below w.heap.size w w' := by
  have hfr : ∀ X : FR, (fread bs).1 = X → fread bs = (X, 0, 0) := fun X hX => by
    have h := fread_ok hf
    rw [← hX]
    exact Prod.ext rfl (Prod.ext hf h.2.2.2.2.1)
  have hty := only_ty hby hf
  obtain ⟨hz1, hz2, hck, hen, _, _⟩ := fread_ok hf
  have hpos := sz_pos hz1 hz2
  obtain ⟨X, hX⟩ : ∃ X, (fread bs).1 = X := ⟨_, rfl⟩
  have hfX := hfr X hX
  rw [hX] at hty hck hen
  rcases hA with ⟨_, h⟩ | ⟨ad, c', hv, h2⟩
  · rw [h] at hpos; simp at hpos
  injection hv with hv1 hv2 hv3
  subst hv1 hv3
  obtain ⟨bb, o, rfl, hs⟩ := h2.plain hpos
  have hA : Arr w (.slice (some ⟨bb, o, none⟩) bs.length c) bs := .inr ⟨_, c, rfl, h2⟩
  have hblt := cell_block (hs 0 hpos)
  have HRd : Hid (∀ W, Below w.heap.size w W → Calls Try.prog 11 #[.slice (some ⟨bb, o, none⟩) bs.length c] W fun e w' => e = .returned (.tuple #[.agg #[.int .u64 X.s, .int .u64 X.d, .int .i64 X.k, .int .i64 X.op, .int .u64 X.sm, .int .u32 X.si, .int .u64 X.tm, .int .u32 X.ti, .int .u32 X.hs, .int .u32 X.hd, .int .i64 X.tl, .int .i64 X.pr, .int .i64 X.sp, .int .i64 X.dp, .int .u64 X.da], .agg #[.int .i64 0, .int .i64 0]]) ∧ Below W.heap.size W w') := Lib.hid (fun W hb => by
    have h := read_any _ bs W (hA.below hb) hby
    unfold ReadsTo at h
    rw [hfX] at h
    exact h)
  have HBt : Hid (∀ W : World, Calls Try.prog 10 #[.agg #[.int .u64 X.s, .int .u64 X.d, .int .i64 X.k, .int .i64 X.op, .int .u64 X.sm, .int .u32 X.si, .int .u64 X.tm, .int .u32 X.ti, .int .u32 X.hs, .int .u32 X.hd, .int .i64 X.tl, .int .i64 X.pr, .int .i64 X.sp, .int .i64 X.dp, .int .u64 X.da]] W fun e w' => ∃ b c, e = .returned (.tuple #[.slice (some ⟨b, 0, none⟩) bs.length c, .int .i64 0]) ∧ Row w' b c bs ∧ W.heap.size ≤ b ∧ Below W.heap.size W w') := Lib.hid (fun W => by
    have h := bytes_yes X hty hck W
    unfold Enc at h
    rw [hen] at h
    exact h)
  obtain ⟨k, hk⟩ := Int.eq_ofNat_of_zero_le (Int.emod_nonneg l (show (bs.length : Int) ≠ 0 by omega))
  have hk2 : k < bs.length := by have := Int.emod_lt_of_pos l (show (0 : Int) < bs.length by omega); omega
  have HK := Lib.hid hk
  have HRc : Hid (∀ W, Below w.heap.size w W → Calls Try.prog 11 #[.slice (some ⟨bb, o, none⟩) k c] W fun e w' => e = .returned (.tuple #[.agg #[.int .u64 0, .int .u64 0, .int .i64 0, .int .i64 0, .int .u64 0, .int .u32 0, .int .u64 0, .int .u32 0, .int .u32 0, .int .u32 0, .int .i64 0, .int .i64 0, .int .i64 0, .int .i64 0, .int .u64 0], .agg #[.int .i64 4, .int .i64 k]]) ∧ Below W.heap.size W w') := Lib.hid (fun W hb => by
    have hl : (bs.take k).length = k := by simp; omega
    have hsl : Sl W bb o (bs.take k) := fun j hj => by
      have hj2 : j < bs.length := by omega
      rw [(hb.cell (p := ⟨bb, o + j, none⟩) hblt).trans (hs j hj2)]
      simp
    have h := read_any (.slice (some ⟨bb, o, none⟩) k c) (bs.take k) W (.inr ⟨_, c, by rw [hl], Sl.at_ hsl⟩) (fun v hv => hby v (List.mem_of_mem_take hv))
    unfold ReadsTo at h
    rw [fread_cut hf k hk2] at h
    exact h)
  have HRm : Hid (∀ (W : World) (v : Value), Arr W v (bs ++ ms) → ∃ X2 : FR, Calls Try.prog 11 #[v] W fun e w' => e = .returned (.tuple #[.agg #[.int .u64 X2.s, .int .u64 X2.d, .int .i64 X2.k, .int .i64 X2.op, .int .u64 X2.sm, .int .u32 X2.si, .int .u64 X2.tm, .int .u32 X2.ti, .int .u32 X2.hs, .int .u32 X2.hd, .int .i64 X2.tl, .int .i64 X2.pr, .int .i64 X2.sp, .int .i64 X2.dp, .int .u64 X2.da], .agg #[.int .i64 5, .int .i64 bs.length]]) ∧ Below W.heap.size W w') := Lib.hid (fun W v hv => by
    have h := read_any v (bs ++ ms) W hv (fun v hv => by
      rcases List.mem_append.1 hv with h | h
      · exact hby v h
      · exact hmy v h)
    unfold ReadsTo at h
    rw [fread_more hf h0] at h
    exact ⟨fr0, h⟩)
  have HStr : Hid (∀ W : World, Arr W (.slice (some ⟨bb, o, none⟩) bs.length c) bs → (convert 23 9 (.slice (some ⟨bb, o, none⟩) bs.length c)).run Try.prog W = .ok (.string (strOfNums bs)) W) := Lib.hid (fun W h => arr_string h hpos)
  have HStr2 : Hid (∀ (W : World) (b c : Nat), Row W b c bs → (convert 23 9 (.slice (some ⟨b, 0, none⟩) bs.length c)).run Try.prog W = .ok (.string (strOfNums bs)) W) := Lib.hid (fun W b c h => arr_string (row_arr h rfl) hpos)
  have HOwn : Hid (∀ W, Below w.heap.size w W → Calls Try.prog 12 #[.slice (some ⟨bb, o, none⟩) bs.length c] W fun e w' => (∃ h' c', e = .returned (.slice (some ⟨h', 0, none⟩) bs.length c') ∧ Row w' h' c' bs ∧ W.heap.size ≤ h') ∧ Below W.heap.size W w') := Lib.hid (fun W hb => own_any _ bs W (hA.below hb) (by omega))
  have HA := Lib.hid hA
  have HM := Lib.hid hM
  have HSm := Lib.hid (And.intro hn hm)
  have hF1 : ∀ W : World, (binOp .eql 38 (.agg #[.int .i64 4, .int .i64 (k : Int)]) (.agg #[.int .i64 4, .int .i64 (k : Int)])).run Try.prog W = .ok (.bool true) W := fun W => by
    have h := eql_ft 4 k 4 k W
    simpa using h
  have hF2 : ∀ W : World, (binOp .eql 38 (.agg #[.int .i64 5, .int .i64 bs.length]) (.agg #[.int .i64 5, .int .i64 bs.length])).run Try.prog W = .ok (.bool true) W := fun W => by
    have h := eql_ft 5 bs.length 5 bs.length W
    simpa using h
  obtain ⟨S, hS⟩ : ∃ S, strOfNums bs = S := ⟨_, rfl⟩
  rw [hS] at HStr HStr2
  obtain ⟨n, hne⟩ : ∃ n, bs.length = n := ⟨_, rfl⟩
  have HNe := Lib.hid hne
  rw [hne] at HRd HBt HStr HStr2 HOwn HK HA hn hk2 hcap hpos hF2 HRm ⊢
  obtain ⟨m, hme⟩ : ∃ m, ms.length = m := ⟨_, rfl⟩
  rw [hme] at HM h0 hm ⊢
  have e2 : ¬ ((300 : Int) < (m : Int)) := by omega
  clear hme
  have h0' : (0 : Int) < (m : Int) := by omega
  clear hne hA hby hM hmy hf hX hfX hfr hty hz1 hz2 hck hen h2 hs hS hk
  have e1 : ¬ ((300 : Int) < (n : Int)) := by omega
  have hkc : (k : Int) ≤ (c : Int) := by omega
  go_enter Try.func7, Try.ntmps7
  go_wp2_with fail
  refine (lives7 _).mono ?_
  rintro e w1 ⟨rfl, hb⟩
  have HL := Lib.hid hb
  clear hb
  go_wp2_with fail
  refine (HRd.out _ HL.out).mono ?_
  rintro e w2 ⟨rfl, hb⟩
  have HL2 := Lib.hid (HL.out.trans (hb.mono HL.out.size))
  clear hb HL
  have HL3 : Hid (Below w.heap.size w ((w2.alloc (.cells #[.int .u64 X.s, .int .u64 X.d, .int .i64 X.k, .int .i64 X.op, .int .u64 X.sm, .int .u32 X.si, .int .u64 X.tm, .int .u32 X.ti, .int .u32 X.hs, .int .u32 X.hd, .int .i64 X.tl, .int .i64 X.pr, .int .i64 X.sp, .int .i64 X.dp, .int .u64 X.da] 36)).alloc (.cells #[.int .i64 0, .int .i64 0] 38))) := Lib.hid ((HL2.out.alloc HL2.out.size _).alloc (by have := HL2.out.size; simp; omega) _)
  clear HL2
  go_wp2_with fail
  refine (HBt.out _).mono ?_
  rintro e w3 ⟨b3, c3, rfl, hrow, hsz, hb⟩
  have hst2 := HStr2.out _ _ _ hrow
  have HL4 := Lib.hid (HL3.out.trans (hb.mono HL3.out.size))
  have hst1 := HStr.out _ (HA.out.below HL4.out)
  clear hrow hsz hb HL3
  go_wp2_with fail
  refine (pick_any l (n : Int) (by omega) (by omega) _).mono ?_
  rintro e w9 ⟨rfl, rfl⟩
  rw [HK.out]
  clear hst1 hst2
  go_wp2_with fail
  refine (HRc.out _ HL4.out).mono ?_
  rintro e w4 ⟨rfl, hb⟩
  have HL5 := Lib.hid (HL4.out.trans (hb.mono HL4.out.size))
  clear hb HL4
  obtain ⟨W5, hW5⟩ : ∃ W5, ((w4.alloc (.cells #[.int .u64 0, .int .u64 0, .int .i64 0, .int .i64 0, .int .u64 0, .int .u32 0, .int .u64 0, .int .u32 0, .int .u32 0, .int .u32 0, .int .i64 0, .int .i64 0, .int .i64 0, .int .i64 0, .int .u64 0] 36)).alloc (.cells #[.int .i64 4, .int .i64 k] 38)) = W5 := ⟨_, rfl⟩
  have HL6 : Hid (Below w.heap.size w W5) := Lib.hid (hW5 ▸ (HL5.out.alloc HL5.out.size _).alloc (by have := HL5.out.size; simp; omega) _)
  have HF6 : Hid (Has W5 (w4.heap.size + 1) 38 #[.int .i64 4, .int .i64 k]) := Lib.hid (by
    have h1 := Has.new (w4.alloc (.cells #[.int .u64 0, .int .u64 0, .int .i64 0, .int .i64 0, .int .u64 0, .int .u32 0, .int .u64 0, .int .u32 0, .int .u32 0, .int .u32 0, .int .i64 0, .int .i64 0, .int .i64 0, .int .i64 0, .int .u64 0] 36)) 38 #[.int .i64 4, .int .i64 (k : Int)]
    rw [World.size_alloc, hW5] at h1
    exact h1)
  clear HL5
  go_upto_region 13 with fail
  try rw [hW5]
  clear hW5
  go_wp2_with fail
  refine (HOwn.out _ HL6.out).mono ?_
  rintro e w6 ⟨⟨h7, c7, rfl, hrow, hsz⟩, hb⟩
  have HRow := Lib.hid hrow
  have HB7 := Lib.hid (And.intro hsz hb)
  clear hrow hsz hb
  go_wp2_with (refine app_arr HRow.out HNe.out _ (HM.out.below (HL6.out.trans (HB7.out.2.mono HL6.out.size))) (by rw [HNe.out]; have := HSm.out.1; omega) (by have := HSm.out.2; omega) (base := W5.heap.size) HB7.out.1 HB7.out.2.size rfl (.tmp 75) (.tmp 76) rfl rfl rfl ?_; intro v8 w8 ha8 hb8; have HA8 := Lib.hid ha8; have HB8 := Lib.hid (HB7.out.2.trans hb8); clear ha8 hb8)
  obtain ⟨X2, hrd2⟩ := HRm.out _ _ HA8.out
  have HRd2 := Lib.hid hrd2
  clear hrd2
  refine HRd2.out.mono ?_
  rintro e w9 ⟨rfl, hb⟩
  have hsz5 : Below W5.heap.size W5 w9 := HB8.out.trans (hb.mono HB8.out.size)
  have HF9 := Lib.hid (HF6.out.below hsz5)
  have HL9 := Lib.hid (HL6.out.trans (hsz5.mono HL6.out.size))
  clear hb hsz5 HA8 HB8 HB7 HRow HF6 HL6
  have f0 := HF9.out.cell 0
  have f1 := HF9.out.cell 1
  simp only [List.getElem?_toArray, List.getElem?_cons_zero, List.getElem?_cons_succ] at f0 f1
  have hlt := HF9.out.lt
  have hlt2 : w4.heap.size < w9.heap.size := by omega
  have hfin : Below w.heap.size w ((w9.alloc (.cells #[.int .u64 X2.s, .int .u64 X2.d, .int .i64 X2.k, .int .i64 X2.op, .int .u64 X2.sm, .int .u32 X2.si, .int .u64 X2.tm, .int .u32 X2.ti, .int .u32 X2.hs, .int .u32 X2.hd, .int .i64 X2.tl, .int .i64 X2.pr, .int .i64 X2.sp, .int .i64 X2.dp, .int .u64 X2.da] 36)).alloc (.cells #[.int .i64 5, .int .i64 n] 38)) := (HL9.out.alloc HL9.out.size _).alloc (by have := HL9.out.size; simp; omega) _
  have HFin := Lib.hid hfin
  clear hfin
  go_wp2_with fail
  go_ret
  exact ⟨rfl, HFin.out⟩

theorem only_any (A : Option Addr) (c : Nat) (bs : List Int) (l : Int) (A2 : Option Addr) (c2 : Nat) (ms : List Int) (w : World) (hA : Arr w (.slice A bs.length c) bs) (hby : ∀ v ∈ bs, 0 ≤ v ∧ v ≤ 255) (hcap : bs.length ≤ c) (hM : Arr w (.slice A2 ms.length c2) ms) (hmy : ∀ v ∈ ms, 0 ≤ v ∧ v ≤ 255) : Calls Try.prog 7 #[.slice A bs.length c, .int .i64 l, .slice A2 ms.length c2] w fun e w' => e = .returned (.bool true) ∧ Below w.heap.size w w' := by
  by_cases hn : 300 < bs.length
  · exact only_big A c bs l A2 c2 ms w hA hby hcap hM hmy hn
  by_cases hm : 300 < ms.length
  · exact only_big2 A c bs l A2 c2 ms w hA hby hcap hM hmy (by omega) hm
  by_cases hf : (fread bs).2.1 = 0
  · by_cases h0 : ms.length = 0
    · exact only_ok0 A c bs l A2 c2 ms w hA hby hcap hM hmy (by omega) (by omega) hf h0
    · exact only_ok1 A c bs l A2 c2 ms w hA hby hcap hM hmy (by omega) (by omega) hf (by omega)
  · exact only_bad A c bs l A2 c2 ms w hA hby hcap hM hmy (by omega) (by omega) hf

end Go.Proofs.Ytnmbmogjgkgjjaa
