/- Packets that carry frames: the document's Read; written by gen_vyd.py. -/
import Derived.Test.YtgdfpmnbofnjfaaZVyD
namespace Go.Proofs.Ytgdfpmnbofnjfaa
open Go.RowKit Go.Shelf
set_option linter.unusedVariables false
set_option linter.unusedSimpArgs false
set_option maxRecDepth 100000

set_option maxHeartbeats 8000000 in
theorem rvread_ok (b o c : Nat) (bs : List Int) (w : World) (hs : Sl w b o bs) (hl : 36 ≤ bs.length) (hm : bs.length ≤ 1000) (hby : ∀ v ∈ bs, 0 ≤ v ∧ v ≤ 255) (hcap : bs.length ≤ c) (h17 : nm bs 9 1 = 17) (h47 : nm bs 22 2 = 4789) (hc36 : 36 < c) (h0 : (fread (bs.drop 36)).2.1 = 0) :
    Calls Try.prog 21 #[.slice (some ⟨b, o, none⟩) bs.length c] w (VReads w bs) := by
  have hblt := cell_block (hs 0 (by omega))
  have hblt' : b < w.heap.size := hblt
  have HSl : Hid (∀ W, Below w.heap.size w W → Sl W b o bs) := Lib.hid (fun W hb j hj => (hb.cell (p := ⟨b, o + j, none⟩) hblt).trans (hs j hj))
  have h9 := hs 9 (by omega)
  have hb9 := hby bs[9] (List.getElem_mem _)
  have hn9 : nm bs 9 1 = bs[9] := nm_one (by omega)
  have harr : Arr w (.slice (some ⟨b, o + 36, none⟩) (bs.length - 36) (c - 36)) (bs.drop 36) := .inr ⟨_, c - 36, by rw [List.length_drop], Sl.at_ (fun j hj => by
    rw [List.length_drop] at hj
    have h := hs (36 + j) (by omega)
    rw [← Nat.add_assoc] at h
    rw [h]
    simp)⟩
  have hby2 : ∀ v ∈ bs.drop 36, 0 ≤ v ∧ v ≤ 255 := fun v hv => hby v (List.mem_of_mem_drop hv)
  have hdl : (bs.drop 36).length = bs.length - 36 := List.length_drop
  obtain ⟨f, hf⟩ : ∃ f, (fread (bs.drop 36)).1 = f := ⟨_, rfl⟩
  obtain ⟨er, her⟩ : ∃ er, (fread (bs.drop 36)).2.1 = er := ⟨_, rfl⟩
  obtain ⟨i, hi⟩ : ∃ i, (fread (bs.drop 36)).2.2 = i := ⟨_, rfl⟩
  have HRd : Hid (∀ W, Below w.heap.size w W → Calls Try.prog 40 #[.slice (some ⟨b, o + 36, none⟩) (bs.length - 36) (c - 36)] W fun e w' => e = .returned (.tuple #[.agg #[.int .u64 f.s, .int .u64 f.d, .int .i64 f.k, .int .i64 f.op, .int .u64 f.sm, .int .u32 f.si, .int .u64 f.tm, .int .u32 f.ti, .int .u32 f.hs, .int .u32 f.hd, .int .i64 f.tl, .int .i64 f.pr, .int .i64 f.sp, .int .i64 f.dp, .int .u64 f.da], .agg #[.int .i64 er, .int .i64 i]]) ∧ Below W.heap.size W w') := Lib.hid (fun W hb => by
    have h := rread_any _ (bs.drop 36) W (harr.below hb) (by omega) hby2
    unfold ReadsTo at h
    rw [hf, her, hi] at h
    exact h)
  have hi00 : i = 0 := by rw [← hi]; exact (fread_ok h0).2.2.2.2.1
  have he00 : er = 0 := by rw [← her]; exact h0
  subst hi00 he00
  have hft : f.ty := hf ▸ fread_ty hby2 h0
  have hyt : (vdec bs f).ty := vdec_ty hby hft
  have hvr : ∀ r, (if vchk (vdec bs f) = 0 ∧ venc (vdec bs f) = bs then (vdec bs f, (0 : Int), (0 : Int)) else (vp0, 3, 0)) = r → vread bs = r := fun r h => by
    unfold vread
    rw [if_neg (show ¬ bs.length < 36 by omega), if_neg (by rw [h17]; simp), if_neg (by rw [h47]; simp), if_neg (by simpa using h0), hf]
    exact h
  obtain ⟨n, hn⟩ : ∃ n, bs.length = n := ⟨_, rfl⟩
  have h8 := hs 8 (by omega)
  have hb8 := hby bs[8] (List.getElem_mem _)
  have hn8 : nm bs 8 1 = bs[8] := nm_one (by omega)
  obtain ⟨y8, hy8⟩ : ∃ y, bs[8] = y := ⟨_, rfl⟩
  rw [hy8] at h8 hb8 hn8
  obtain ⟨hb80, hb81⟩ := hb8
  have hw8 : IntKind.i64.wrap y8 = y8 := IntWalk.i64_in _ (by omega)
  have HC8 := Lib.hid h8
  have h9c : w.cell? ⟨b, o + 9, none⟩ = some (.int .u8 17) := by rw [h9, ← hn9, h17]
  have HC := Lib.hid h9c
  clear h9 h9c hb9
  have HT22 : Hid (∀ W, Below w.heap.size w W → Calls Try.prog 39 #[.slice (some ⟨b, o, none⟩) n c, .int .i64 22, .int .i64 2] W fun e w' => e = .returned (.int .u64 4789) ∧ W = w') := Lib.hid (fun W hb => by
    have h := rtake_any b o c n bs hn 22 2 (by decide) (by decide) (by omega) (by omega) hby W (HSl.out W hb)
    rw [h47] at h
    exact h)
  obtain ⟨t12, ht12⟩ : ∃ t, nm bs 12 4 = t := ⟨_, rfl⟩
  have HT12 : Hid (∀ W, Below w.heap.size w W → Calls Try.prog 39 #[.slice (some ⟨b, o, none⟩) n c, .int .i64 12, .int .i64 4] W fun e w' => e = .returned (.int .u64 t12) ∧ W = w') := Lib.hid (fun W hb => by
    have h := rtake_any b o c n bs hn 12 4 (by decide) (by decide) (by omega) (by omega) hby W (HSl.out W hb)
    rw [ht12] at h
    exact h)
  have hv12 := ht12 ▸ nm_bd hby 12 4
  have hw12 : IntKind.u32.wrap t12 = t12 := in4 hv12
  have hx12 : t12 % 4294967296 = t12 := by omega
  obtain ⟨t16, ht16⟩ : ∃ t, nm bs 16 4 = t := ⟨_, rfl⟩
  have HT16 : Hid (∀ W, Below w.heap.size w W → Calls Try.prog 39 #[.slice (some ⟨b, o, none⟩) n c, .int .i64 16, .int .i64 4] W fun e w' => e = .returned (.int .u64 t16) ∧ W = w') := Lib.hid (fun W hb => by
    have h := rtake_any b o c n bs hn 16 4 (by decide) (by decide) (by omega) (by omega) hby W (HSl.out W hb)
    rw [ht16] at h
    exact h)
  have hv16 := ht16 ▸ nm_bd hby 16 4
  have hw16 : IntKind.u32.wrap t16 = t16 := in4 hv16
  have hx16 : t16 % 4294967296 = t16 := by omega
  obtain ⟨t20, ht20⟩ : ∃ t, nm bs 20 2 = t := ⟨_, rfl⟩
  have HT20 : Hid (∀ W, Below w.heap.size w W → Calls Try.prog 39 #[.slice (some ⟨b, o, none⟩) n c, .int .i64 20, .int .i64 2] W fun e w' => e = .returned (.int .u64 t20) ∧ W = w') := Lib.hid (fun W hb => by
    have h := rtake_any b o c n bs hn 20 2 (by decide) (by decide) (by omega) (by omega) hby W (HSl.out W hb)
    rw [ht20] at h
    exact h)
  have hv20 := ht20 ▸ nm_bd hby 20 2
  have hw20 : IntKind.i64.wrap t20 = t20 := in2 hv20
  obtain ⟨t32, ht32⟩ : ∃ t, nm bs 32 3 = t := ⟨_, rfl⟩
  have HT32 : Hid (∀ W, Below w.heap.size w W → Calls Try.prog 39 #[.slice (some ⟨b, o, none⟩) n c, .int .i64 32, .int .i64 3] W fun e w' => e = .returned (.int .u64 t32) ∧ W = w') := Lib.hid (fun W hb => by
    have h := rtake_any b o c n bs hn 32 3 (by decide) (by decide) (by omega) (by omega) hby W (HSl.out W hb)
    rw [ht32] at h
    exact h)
  have hv32 := ht32 ▸ nm_bd hby 32 3
  have hw32 : IntKind.u32.wrap t32 = t32 := in3u hv32
  have hx32 : t32 % 4294967296 = t32 := by omega
  obtain ⟨t29, ht29⟩ : ∃ t, nm bs 29 3 = t := ⟨_, rfl⟩
  have HT29 : Hid (∀ W, Below w.heap.size w W → Calls Try.prog 39 #[.slice (some ⟨b, o, none⟩) n c, .int .i64 29, .int .i64 3] W fun e w' => e = .returned (.int .u64 t29) ∧ W = w') := Lib.hid (fun W hb => by
    have h := rtake_any b o c n bs hn 29 3 (by decide) (by decide) (by omega) (by omega) hby W (HSl.out W hb)
    rw [ht29] at h
    exact h)
  have hv29 := ht29 ▸ nm_bd hby 29 3
  have hw29 : IntKind.u32.wrap t29 = t29 := in3u hv29
  have hx29 : t29 % 4294967296 = t29 := by omega
  have hyv : vdec bs f = (⟨t12, t16, y8, t20, t32, t29, f⟩ : VP) := by unfold vdec; rw [ht12, ht16, hn8, ht20, ht32, ht29]
  rw [hyv] at hvr hyt
  clear hyv
  have HVr := Lib.hid hvr
  have HYt := Lib.hid hyt
  have HBy := Lib.hid hby
  have HAr : Hid (∀ W, Below w.heap.size w W → Arr W (.slice (some ⟨b, o, none⟩) n c) bs) := Lib.hid (fun W hb => .inr ⟨_, c, by rw [hn], Sl.at_ (HSl.out W hb)⟩)
  have HPos : Hid (0 < bs.length) := Lib.hid (by omega)
  rw [hn] at hl hcap HRd ⊢
  have e1 : ¬ ((n : Int) < 36) := by omega
  have e3 : (9 : Int) < (n : Int) := by omega
  have e7 : (8 : Int) < (n : Int) := by omega
  have e4 : (36 : Int) ≤ (n : Int) := by omega
  have e5 : (36 : Int) < (c : Int) := by omega
  have e6 : 36 < c := by omega
  clear hs hby hn9 hn8 hy8 h8 hn harr hby2 hdl hf her hi h0 hm hft hyt hvr ht12 ht16 ht20 ht32 ht29
  obtain ⟨W2, hW2⟩ : ∃ W2, ((w.alloc (.cells #[.int .u32 0, .int .u32 0, .int .i64 0, .int .i64 0, .int .u32 0, .int .u32 0, .int .u64 0, .int .u64 0, .int .i64 0, .int .i64 0, .int .u64 0, .int .u32 0, .int .u64 0, .int .u32 0, .int .u32 0, .int .u32 0, .int .i64 0, .int .i64 0, .int .i64 0, .int .i64 0, .int .u64 0] 34)).alloc (.cells #[.int .i64 0, .int .i64 0] 37)) = W2 := ⟨_, rfl⟩
  have HW : Hid (VRW w vp0 0 0 W2) := Lib.hid (hW2 ▸ VRW.start w)
  go_enter Try.func21, Try.ntmps21
  go_upto_region 1 with fail
  try rw [hW2]
  clear hW2
  have c9 := (HW.out.lo.cell (p := ⟨b, o + 9, none⟩) hblt').trans HC.out
  go_wp2_with fail
  refine (HT22.out _ HW.out.lo).mono ?_
  rintro e wt22 ⟨rfl, rfl⟩
  go_wp2_with fail
  refine (HRd.out _ HW.out.lo).mono ?_
  rintro e w5 ⟨rfl, hb⟩
  have HW5 := Lib.hid (HW.out.below hb)
  clear hb HW
  clear c9
  go_upto_region 10 with fail
  go_cut [6] (fun v6 wx => ∃ B, v6 = .pointer (some ⟨B, 0, none⟩) ∧ Has wx B 34 (⟨t12, t16, y8, t20, t32, t29, f⟩ : VP).cs ∧ VRW w vp0 0 0 wx ∧ w.heap.size + 1 < B)
  case first =>
    obtain ⟨W4, hW4⟩ : ∃ W4, (w5.alloc (.cells #[.int .u64 f.s, .int .u64 f.d, .int .i64 f.k, .int .i64 f.op, .int .u64 f.sm, .int .u32 f.si, .int .u64 f.tm, .int .u32 f.ti, .int .u32 f.hs, .int .u32 f.hd, .int .i64 f.tl, .int .i64 f.pr, .int .i64 f.sp, .int .i64 f.dp, .int .u64 f.da] 32)).alloc (.cells #[.int .i64 0, .int .i64 0] 37) = W4 := ⟨_, rfl⟩
    have HW4 : Hid (VRW w vp0 0 0 W4.drew) := Lib.hid (hW4 ▸ HW5.out.below (((Below.refl _ w5).alloc (Nat.le_refl _) _).alloc (by simp) _).drew)
    have HB4 : Hid (Has W4.drew w5.heap.size 32 f.cs) := Lib.hid (hW4 ▸ ((Has.new w5 _ _).below ((Below.refl _ _).alloc (Nat.le_refl _) _)).below (Below.refl _ _).drew)
    try rw [hW4]
    clear hW4 HW5
    have HS : Hid (∀ W : World, Below w.heap.size w W → Has W w5.heap.size 32 f.cs → (W.cell? ⟨b, o + 8, none⟩ = some (.int .u8 y8) ∧ Has W w5.heap.size 32 f.cs)) := Lib.hid (fun W h h2 => ⟨(h.cell (p := ⟨b, o + 8, none⟩) hblt').trans HC8.out, h2⟩)
    refine wp_region_held_drew (S := (fun w' => w'.cell? ⟨b, o + 8, none⟩ = some (.int .u8 y8) ∧ Has w' w5.heap.size 32 f.cs)) (by kernel_rfl) (HS.out _ HW4.out.lo HB4.out) (fun hHeld => ?_)
    generalize W4.drew = W6 at *
    have HW6 := HW4
    have HB6 := HB4
    clear HW4 HB4
    have HN7 : Hid (Has (W6.alloc (.cells #[.int .u32 0, .int .u32 0, .int .i64 0, .int .i64 0, .int .u32 0, .int .u32 0, .int .u64 0, .int .u64 0, .int .i64 0, .int .i64 0, .int .u64 0, .int .u32 0, .int .u64 0, .int .u32 0, .int .u32 0, .int .u32 0, .int .i64 0, .int .i64 0, .int .i64 0, .int .i64 0, .int .u64 0] 34)) W6.heap.size 34 vp0.cs) := Lib.hid (Has.new _ _ _)
    have HV : Hid (VRW w vp0 0 0 (W6.alloc (.cells #[.int .u32 0, .int .u32 0, .int .i64 0, .int .i64 0, .int .u32 0, .int .u32 0, .int .u64 0, .int .u64 0, .int .i64 0, .int .i64 0, .int .u64 0, .int .u32 0, .int .u64 0, .int .u32 0, .int .u32 0, .int .u32 0, .int .i64 0, .int .i64 0, .int .i64 0, .int .i64 0, .int .u64 0] 34))) := Lib.hid (HW6.out.below ((Below.refl _ W6).alloc (Nat.le_refl _) _))
    have HB7 : Hid (Has (W6.alloc (.cells #[.int .u32 0, .int .u32 0, .int .i64 0, .int .i64 0, .int .u32 0, .int .u32 0, .int .u64 0, .int .u64 0, .int .i64 0, .int .i64 0, .int .u64 0, .int .u32 0, .int .u64 0, .int .u32 0, .int .u32 0, .int .u32 0, .int .i64 0, .int .i64 0, .int .i64 0, .int .i64 0, .int .u64 0] 34)) w5.heap.size 32 f.cs) := Lib.hid (HB6.out.below ((Below.refl _ W6).alloc (Nat.le_refl _) _))
    have HLt6 : Hid (w.heap.size + 1 < W6.heap.size) := Lib.hid HW6.out.flt.lt
    have HLb : Hid (w5.heap.size < W6.heap.size) := Lib.hid HB6.out.lt
    have HN8 : Hid (Has ((W6.alloc (.cells #[.int .u32 0, .int .u32 0, .int .i64 0, .int .i64 0, .int .u32 0, .int .u32 0, .int .u64 0, .int .u64 0, .int .i64 0, .int .i64 0, .int .u64 0, .int .u32 0, .int .u64 0, .int .u32 0, .int .u32 0, .int .u32 0, .int .i64 0, .int .i64 0, .int .i64 0, .int .i64 0, .int .u64 0] 34)).setRow W6.heap.size (⟨t12, t16, y8, t20, t32, t29, f⟩ : VP).cs) W6.heap.size 34 (⟨t12, t16, y8, t20, t32, t29, f⟩ : VP).cs) := Lib.hid (setRow_heap _ _ _ _ _ HN7.out)
    have HV8 : Hid (VRW w vp0 0 0 ((W6.alloc (.cells #[.int .u32 0, .int .u32 0, .int .i64 0, .int .i64 0, .int .u32 0, .int .u32 0, .int .u64 0, .int .u64 0, .int .i64 0, .int .i64 0, .int .u64 0, .int .u32 0, .int .u64 0, .int .u32 0, .int .u32 0, .int .u32 0, .int .i64 0, .int .i64 0, .int .i64 0, .int .i64 0, .int .u64 0] 34)).setRow W6.heap.size (⟨t12, t16, y8, t20, t32, t29, f⟩ : VP).cs)) := Lib.hid (HV.out.only (Only.row _) HLt6.out)
    have HB8 : Hid (Has ((W6.alloc (.cells #[.int .u32 0, .int .u32 0, .int .i64 0, .int .i64 0, .int .u32 0, .int .u32 0, .int .u64 0, .int .u64 0, .int .i64 0, .int .i64 0, .int .u64 0, .int .u32 0, .int .u64 0, .int .u32 0, .int .u32 0, .int .u32 0, .int .i64 0, .int .i64 0, .int .i64 0, .int .i64 0, .int .u64 0] 34)).setRow W6.heap.size (⟨t12, t16, y8, t20, t32, t29, f⟩ : VP).cs) w5.heap.size 32 f.cs) := Lib.hid (HB7.out.grown (Only.row _) (by intro h9; injection h9 with h9; have := HLb.out; omega))
    refine wpAnyH_take (i := 0) (oi := { dst := some 46, op := Go.Op.move (Go.Operand.tmp 0), type := 40, pos := "ref.go:44", after := #[], guard := none }) (v := ?_) rfl (by kernel_rfl) (by kernel_rfl) (by kernel_rfl) (fun _ _ _ h => h) (Or.inl ⟨by rfl, ?_⟩) (by assumption) ?_
    rotate_left
    · intro wS hSw
      try dsimp only at hSw
      go_split_ands
      go_simp
      try with_reducible rfl
    try simp only [Act.put, List.setIfInBounds_toArray, List.set_cons_zero, List.set_cons_succ]
    refine wpAnyH_take (i := 3) (oi := { dst := some 49, op := Go.Op.move (Go.Operand.tmp 0), type := 40, pos := "ref.go:44", after := #[], guard := none }) (v := ?_) rfl (by kernel_rfl) (by kernel_rfl) (by kernel_rfl) (fun _ _ _ h => h) (Or.inl ⟨by rfl, ?_⟩) (by assumption) ?_
    rotate_left
    · intro wS hSw
      try dsimp only at hSw
      go_split_ands
      go_simp
      try with_reducible rfl
    try simp only [Act.put, List.setIfInBounds_toArray, List.set_cons_zero, List.set_cons_succ]
    refine wpAnyH_take (i := 6) (oi := { dst := some 52, op := Go.Op.move (Go.Operand.tmp 0), type := 40, pos := "ref.go:44", after := #[], guard := none }) (v := ?_) rfl (by kernel_rfl) (by kernel_rfl) (by kernel_rfl) (fun _ _ _ h => h) (Or.inl ⟨by rfl, ?_⟩) (by assumption) ?_
    rotate_left
    · intro wS hSw
      try dsimp only at hSw
      go_split_ands
      go_simp
      try with_reducible rfl
    try simp only [Act.put, List.setIfInBounds_toArray, List.set_cons_zero, List.set_cons_succ]
    refine wpAnyH_take (i := 7) (oi := { dst := some 53, op := Go.Op.indexAddr 40 (Go.Operand.tmp 52) (Go.Operand.const (Go.Value.int Go.IntKind.i64 8)), type := 0, pos := "ref.go:44", after := #[{ on := 6, ground := Go.Ground.data }], guard := none }) (v := ?_) rfl (by kernel_rfl) (by kernel_rfl) (by kernel_rfl) (fun _ _ _ h => h) (Or.inl ⟨by rfl, ?_⟩) (by assumption) ?_
    rotate_left
    · intro wS hSw
      try dsimp only at hSw
      go_split_ands
      go_simp
      try with_reducible rfl
    try simp only [Act.put, List.setIfInBounds_toArray, List.set_cons_zero, List.set_cons_succ]
    refine wpAnyH_take (i := 8) (oi := { dst := some 54, op := Go.Op.load 5 (Go.Operand.tmp 53), type := 5, pos := "ref.go:44", after := #[{ on := 7, ground := Go.Ground.data }], guard := none }) (v := ?_) rfl (by kernel_rfl) (by kernel_rfl) (by kernel_rfl) (fun _ _ _ h => h) (Or.inl ⟨by rfl, ?_⟩) (by assumption) ?_
    rotate_left
    · intro wS hSw
      try dsimp only at hSw
      go_split_ands
      go_simp
      try with_reducible rfl
    try simp only [Act.put, List.setIfInBounds_toArray, List.set_cons_zero, List.set_cons_succ]
    refine wpAnyH_take (i := 9) (oi := { dst := some 55, op := Go.Op.convert 5 3 (Go.Operand.tmp 54), type := 3, pos := "ref.go:44", after := #[{ on := 8, ground := Go.Ground.data }], guard := none }) (v := ?_) rfl (by kernel_rfl) (by kernel_rfl) (by kernel_rfl) (fun _ _ _ h => h) (Or.inl ⟨by rfl, ?_⟩) (by assumption) ?_
    rotate_left
    · intro wS hSw
      try dsimp only at hSw
      go_split_ands
      go_simp
      try with_reducible rfl
    try simp only [Act.put, List.setIfInBounds_toArray, List.set_cons_zero, List.set_cons_succ]
    refine wpAnyH_take (i := 10) (oi := { dst := some 56, op := Go.Op.move (Go.Operand.tmp 0), type := 40, pos := "ref.go:44", after := #[], guard := none }) (v := ?_) rfl (by kernel_rfl) (by kernel_rfl) (by kernel_rfl) (fun _ _ _ h => h) (Or.inl ⟨by rfl, ?_⟩) (by assumption) ?_
    rotate_left
    · intro wS hSw
      try dsimp only at hSw
      go_split_ands
      go_simp
      try with_reducible rfl
    try simp only [Act.put, List.setIfInBounds_toArray, List.set_cons_zero, List.set_cons_succ]
    refine wpAnyH_take (i := 13) (oi := { dst := some 59, op := Go.Op.move (Go.Operand.tmp 0), type := 40, pos := "ref.go:44", after := #[], guard := none }) (v := ?_) rfl (by kernel_rfl) (by kernel_rfl) (by kernel_rfl) (fun _ _ _ h => h) (Or.inl ⟨by rfl, ?_⟩) (by assumption) ?_
    rotate_left
    · intro wS hSw
      try dsimp only at hSw
      go_split_ands
      go_simp
      try with_reducible rfl
    try simp only [Act.put, List.setIfInBounds_toArray, List.set_cons_zero, List.set_cons_succ]
    refine wpAnyH_take (i := 16) (oi := { dst := some 62, op := Go.Op.move (Go.Operand.tmp 0), type := 40, pos := "ref.go:44", after := #[], guard := none }) (v := ?_) rfl (by kernel_rfl) (by kernel_rfl) (by kernel_rfl) (fun _ _ _ h => h) (Or.inl ⟨by rfl, ?_⟩) (by assumption) ?_
    rotate_left
    · intro wS hSw
      try dsimp only at hSw
      go_split_ands
      go_simp
      try with_reducible rfl
    try simp only [Act.put, List.setIfInBounds_toArray, List.set_cons_zero, List.set_cons_succ]
    refine wpAnyH_take (i := 19) (oi := { dst := some 65, op := Go.Op.load 32 (Go.Operand.tmp 4), type := 32, pos := "ref.go:44", after := #[], guard := none }) (v := .agg #[.int .u64 f.s, .int .u64 f.d, .int .i64 f.k, .int .i64 f.op, .int .u64 f.sm, .int .u32 f.si, .int .u64 f.tm, .int .u32 f.ti, .int .u32 f.hs, .int .u32 f.hd, .int .i64 f.tl, .int .i64 f.pr, .int .i64 f.sp, .int .i64 f.dp, .int .u64 f.da]) rfl (by kernel_rfl) (by kernel_rfl) (by kernel_rfl) (fun _ _ _ h => h) (yields_fr (by rfl) (.tmp 4) rfl w5.heap.size rfl f (fun _ h => ⟨_, h.2⟩)) (by assumption) ?_
    try simp only [Act.put, List.setIfInBounds_toArray, List.set_cons_zero, List.set_cons_succ]
    refine wpAnyH_ready (rs := [1, 21]) (by kernel_rfl) (by simp) ?_
    refine AllReadyH.cons (o := { dst := some 47, op := Go.Op.call { callee := Go.Callee.value (Go.Operand.func 39), args := #[Go.Operand.tmp 46, Go.Operand.const (Go.Value.int Go.IntKind.i64 12), Go.Operand.const (Go.Value.int Go.IntKind.i64 4)], argTypes := #[40, 3, 3] }, type := 25, pos := "ref.go:44", after := #[{ on := 0, ground := Go.Ground.data }], guard := none }) rfl (fun K hK => ?_) (AllReadyH.cons (o := { dst := some 6, op := Go.Op.alloc 34, type := 0, pos := "ref.go:44", after := #[], guard := none }) rfl (fun K hK => ?_) AllReadyH.nil)
    · go_simp
      go_at_call 39
      refine (HT12.out _ HW6.out.lo).mono ?_
      rintro e wt12 ⟨rfl, rfl⟩
      refine hK.out _ _ (HS.out _ HW6.out.lo HB6.out) (fun hHeld => ?_)
      clear hK K
      try simp only [Act.put, List.setIfInBounds_toArray, List.set_cons_zero, List.set_cons_succ]
      refine wpAnyH_take (i := 2) (oi := { dst := some 48, op := Go.Op.convert 25 24 (Go.Operand.tmp 47), type := 24, pos := "ref.go:44", after := #[{ on := 1, ground := Go.Ground.data }], guard := none }) (v := ?_) rfl (by kernel_rfl) (by kernel_rfl) (by kernel_rfl) (fun _ _ _ h => h) (Or.inl ⟨by rfl, ?_⟩) (by assumption) ?_
      rotate_left
      · intro wS hSw
        try dsimp only at hSw
        go_split_ands
        go_simp
        try with_reducible rfl
      try simp only [Act.put, List.setIfInBounds_toArray, List.set_cons_zero, List.set_cons_succ]
      refine wpAnyH_ready (rs := [4, 21]) (by kernel_rfl) (by simp) ?_
      refine AllReadyH.cons (o := { dst := some 50, op := Go.Op.call { callee := Go.Callee.value (Go.Operand.func 39), args := #[Go.Operand.tmp 49, Go.Operand.const (Go.Value.int Go.IntKind.i64 16), Go.Operand.const (Go.Value.int Go.IntKind.i64 4)], argTypes := #[40, 3, 3] }, type := 25, pos := "ref.go:44", after := #[{ on := 3, ground := Go.Ground.data }, { on := 1, ground := Go.Ground.chain }], guard := none }) rfl (fun K hK => ?_) (AllReadyH.cons (o := { dst := some 6, op := Go.Op.alloc 34, type := 0, pos := "ref.go:44", after := #[], guard := none }) rfl (fun K hK => ?_) AllReadyH.nil)
      · go_simp
        go_at_call 39
        refine (HT16.out _ HW6.out.lo).mono ?_
        rintro e wt16 ⟨rfl, rfl⟩
        refine hK.out _ _ (HS.out _ HW6.out.lo HB6.out) (fun hHeld => ?_)
        clear hK K
        try simp only [Act.put, List.setIfInBounds_toArray, List.set_cons_zero, List.set_cons_succ]
        refine wpAnyH_take (i := 5) (oi := { dst := some 51, op := Go.Op.convert 25 24 (Go.Operand.tmp 50), type := 24, pos := "ref.go:44", after := #[{ on := 4, ground := Go.Ground.data }], guard := none }) (v := ?_) rfl (by kernel_rfl) (by kernel_rfl) (by kernel_rfl) (fun _ _ _ h => h) (Or.inl ⟨by rfl, ?_⟩) (by assumption) ?_
        rotate_left
        · intro wS hSw
          try dsimp only at hSw
          go_split_ands
          go_simp
          try with_reducible rfl
        try simp only [Act.put, List.setIfInBounds_toArray, List.set_cons_zero, List.set_cons_succ]
        refine wpAnyH_ready (rs := [11, 21]) (by kernel_rfl) (by simp) ?_
        refine AllReadyH.cons (o := { dst := some 57, op := Go.Op.call { callee := Go.Callee.value (Go.Operand.func 39), args := #[Go.Operand.tmp 56, Go.Operand.const (Go.Value.int Go.IntKind.i64 20), Go.Operand.const (Go.Value.int Go.IntKind.i64 2)], argTypes := #[40, 3, 3] }, type := 25, pos := "ref.go:44", after := #[{ on := 10, ground := Go.Ground.data }, { on := 4, ground := Go.Ground.chain }], guard := none }) rfl (fun K hK => ?_) (AllReadyH.cons (o := { dst := some 6, op := Go.Op.alloc 34, type := 0, pos := "ref.go:44", after := #[], guard := none }) rfl (fun K hK => ?_) AllReadyH.nil)
        · go_simp
          go_at_call 39
          refine (HT20.out _ HW6.out.lo).mono ?_
          rintro e wt20 ⟨rfl, rfl⟩
          refine hK.out _ _ (HS.out _ HW6.out.lo HB6.out) (fun hHeld => ?_)
          clear hK K
          try simp only [Act.put, List.setIfInBounds_toArray, List.set_cons_zero, List.set_cons_succ]
          refine wpAnyH_take (i := 12) (oi := { dst := some 58, op := Go.Op.convert 25 3 (Go.Operand.tmp 57), type := 3, pos := "ref.go:44", after := #[{ on := 11, ground := Go.Ground.data }], guard := none }) (v := ?_) rfl (by kernel_rfl) (by kernel_rfl) (by kernel_rfl) (fun _ _ _ h => h) (Or.inl ⟨by rfl, ?_⟩) (by assumption) ?_
          rotate_left
          · intro wS hSw
            try dsimp only at hSw
            go_split_ands
            go_simp
            try with_reducible rfl
          try simp only [Act.put, List.setIfInBounds_toArray, List.set_cons_zero, List.set_cons_succ]
          refine wpAnyH_ready (rs := [14, 21]) (by kernel_rfl) (by simp) ?_
          refine AllReadyH.cons (o := { dst := some 60, op := Go.Op.call { callee := Go.Callee.value (Go.Operand.func 39), args := #[Go.Operand.tmp 59, Go.Operand.const (Go.Value.int Go.IntKind.i64 32), Go.Operand.const (Go.Value.int Go.IntKind.i64 3)], argTypes := #[40, 3, 3] }, type := 25, pos := "ref.go:44", after := #[{ on := 13, ground := Go.Ground.data }, { on := 11, ground := Go.Ground.chain }], guard := none }) rfl (fun K hK => ?_) (AllReadyH.cons (o := { dst := some 6, op := Go.Op.alloc 34, type := 0, pos := "ref.go:44", after := #[], guard := none }) rfl (fun K hK => ?_) AllReadyH.nil)
          · go_simp
            go_at_call 39
            refine (HT32.out _ HW6.out.lo).mono ?_
            rintro e wt32 ⟨rfl, rfl⟩
            refine hK.out _ _ (HS.out _ HW6.out.lo HB6.out) (fun hHeld => ?_)
            clear hK K
            try simp only [Act.put, List.setIfInBounds_toArray, List.set_cons_zero, List.set_cons_succ]
            refine wpAnyH_take (i := 15) (oi := { dst := some 61, op := Go.Op.convert 25 23 (Go.Operand.tmp 60), type := 23, pos := "ref.go:44", after := #[{ on := 14, ground := Go.Ground.data }], guard := none }) (v := ?_) rfl (by kernel_rfl) (by kernel_rfl) (by kernel_rfl) (fun _ _ _ h => h) (Or.inl ⟨by rfl, ?_⟩) (by assumption) ?_
            rotate_left
            · intro wS hSw
              try dsimp only at hSw
              go_split_ands
              go_simp
              try with_reducible rfl
            try simp only [Act.put, List.setIfInBounds_toArray, List.set_cons_zero, List.set_cons_succ]
            refine wpAnyH_ready (rs := [17, 21]) (by kernel_rfl) (by simp) ?_
            refine AllReadyH.cons (o := { dst := some 63, op := Go.Op.call { callee := Go.Callee.value (Go.Operand.func 39), args := #[Go.Operand.tmp 62, Go.Operand.const (Go.Value.int Go.IntKind.i64 29), Go.Operand.const (Go.Value.int Go.IntKind.i64 3)], argTypes := #[40, 3, 3] }, type := 25, pos := "ref.go:44", after := #[{ on := 16, ground := Go.Ground.data }, { on := 14, ground := Go.Ground.chain }], guard := none }) rfl (fun K hK => ?_) (AllReadyH.cons (o := { dst := some 6, op := Go.Op.alloc 34, type := 0, pos := "ref.go:44", after := #[], guard := none }) rfl (fun K hK => ?_) AllReadyH.nil)
            · go_simp
              go_at_call 39
              refine (HT29.out _ HW6.out.lo).mono ?_
              rintro e wt29 ⟨rfl, rfl⟩
              refine hK.out _ _ (HS.out _ HW6.out.lo HB6.out) (fun hHeld => ?_)
              clear hK K
              try simp only [Act.put, List.setIfInBounds_toArray, List.set_cons_zero, List.set_cons_succ]
              refine wpAnyH_take (i := 18) (oi := { dst := some 64, op := Go.Op.convert 25 23 (Go.Operand.tmp 63), type := 23, pos := "ref.go:44", after := #[{ on := 17, ground := Go.Ground.data }], guard := none }) (v := ?_) rfl (by kernel_rfl) (by kernel_rfl) (by kernel_rfl) (fun _ _ _ h => h) (Or.inl ⟨by rfl, ?_⟩) (by assumption) ?_
              rotate_left
              · intro wS hSw
                try dsimp only at hSw
                go_split_ands
                go_simp
                try with_reducible rfl
              try simp only [Act.put, List.setIfInBounds_toArray, List.set_cons_zero, List.set_cons_succ]
              refine wpAnyH_take (i := 20) (oi := { dst := some 66, op := Go.Op.build 34 #[(0, Go.Operand.tmp 48), (1, Go.Operand.tmp 51), (2, Go.Operand.tmp 55), (3, Go.Operand.tmp 58), (4, Go.Operand.tmp 61), (5, Go.Operand.tmp 64), (6, Go.Operand.tmp 65)], type := 34, pos := "ref.go:44", after := #[{ on := 2, ground := Go.Ground.data }, { on := 5, ground := Go.Ground.data }, { on := 9, ground := Go.Ground.data }, { on := 12, ground := Go.Ground.data }, { on := 15, ground := Go.Ground.data }, { on := 18, ground := Go.Ground.data }, { on := 19, ground := Go.Ground.data }], guard := none }) (v := ?_) rfl (by kernel_rfl) (by kernel_rfl) (by kernel_rfl) (fun _ _ _ h => h) (Or.inl ⟨by rfl, ?_⟩) (by assumption) ?_
              rotate_left
              · intro wS hSw
                try dsimp only at hSw
                go_split_ands
                go_simp
                try with_reducible rfl
              try simp only [Act.put, List.setIfInBounds_toArray, List.set_cons_zero, List.set_cons_succ]
              refine wpAnyH_ready (rs := [21]) (by kernel_rfl) (by simp) ?_
              refine AllReadyH.cons (o := { dst := some 6, op := Go.Op.alloc 34, type := 0, pos := "ref.go:44", after := #[], guard := none }) rfl (fun K hK => ?_) AllReadyH.nil
              go_simp
              refine hK.out _ _ (HS.out _ HV.out.lo HB7.out) (fun hHeld => ?_)
              clear hK K
              try simp only [Act.put, List.setIfInBounds_toArray, List.set_cons_zero, List.set_cons_succ]
              refine wpAnyH_ready (rs := [22]) (by kernel_rfl) (by simp) ?_
              refine AllReadyH.cons (o := { dst := none, op := Go.Op.store 34 (Go.Operand.tmp 6) (Go.Operand.tmp 66), type := 0, pos := "ref.go:44", after := #[{ on := 21, ground := Go.Ground.data }, { on := 20, ground := Go.Ground.data }, { on := 17, ground := Go.Ground.chain }, { on := 0, ground := Go.Ground.phase }, { on := 1, ground := Go.Ground.phase }, { on := 2, ground := Go.Ground.phase }, { on := 3, ground := Go.Ground.phase }, { on := 4, ground := Go.Ground.phase }, { on := 5, ground := Go.Ground.phase }, { on := 6, ground := Go.Ground.phase }, { on := 7, ground := Go.Ground.phase }, { on := 8, ground := Go.Ground.phase }, { on := 9, ground := Go.Ground.phase }, { on := 10, ground := Go.Ground.phase }, { on := 11, ground := Go.Ground.phase }, { on := 12, ground := Go.Ground.phase }, { on := 13, ground := Go.Ground.phase }, { on := 14, ground := Go.Ground.phase }, { on := 15, ground := Go.Ground.phase }, { on := 16, ground := Go.Ground.phase }, { on := 17, ground := Go.Ground.phase }, { on := 18, ground := Go.Ground.phase }, { on := 19, ground := Go.Ground.phase }, { on := 20, ground := Go.Ground.phase }, { on := 21, ground := Go.Ground.phase }], guard := none }) rfl (fun K hK => ?_) AllReadyH.nil
              refine stepStoreRow rfl 34 (.tmp 6) (.tmp 66) rfl W6.heap.size (⟨t12, t16, y8, t20, t32, t29, f⟩ : VP).cs rfl rfl 34 vp0.cs HN7.out (VP.fit _) rfl (VP.one _) ?_
              refine hK.out _ _ (HS.out _ HV8.out.lo HB8.out) (fun hHeld => ?_)
              clear hK K
              try simp only [Act.put, List.setIfInBounds_toArray, List.set_cons_zero, List.set_cons_succ]
              refine wpAnyH_done (by kernel_rfl) ?_ _
              go_wp2_with fail
              go_meet
              exact ⟨_, rfl, HN8.out, HV8.out, HLt6.out⟩
            · go_simp
              refine hK.out _ _ (HS.out _ HV.out.lo HB7.out) (fun hHeld => ?_)
              clear hK K
              try simp only [Act.put, List.setIfInBounds_toArray, List.set_cons_zero, List.set_cons_succ]
              refine wpAnyH_ready (rs := [17]) (by kernel_rfl) (by simp) ?_
              refine AllReadyH.cons (o := { dst := some 63, op := Go.Op.call { callee := Go.Callee.value (Go.Operand.func 39), args := #[Go.Operand.tmp 62, Go.Operand.const (Go.Value.int Go.IntKind.i64 29), Go.Operand.const (Go.Value.int Go.IntKind.i64 3)], argTypes := #[40, 3, 3] }, type := 25, pos := "ref.go:44", after := #[{ on := 16, ground := Go.Ground.data }, { on := 14, ground := Go.Ground.chain }], guard := none }) rfl (fun K hK => ?_) AllReadyH.nil
              go_simp
              go_at_call 39
              refine (HT29.out _ HV.out.lo).mono ?_
              rintro e wt29 ⟨rfl, rfl⟩
              refine hK.out _ _ (HS.out _ HV.out.lo HB7.out) (fun hHeld => ?_)
              clear hK K
              try simp only [Act.put, List.setIfInBounds_toArray, List.set_cons_zero, List.set_cons_succ]
              refine wpAnyH_take (i := 18) (oi := { dst := some 64, op := Go.Op.convert 25 23 (Go.Operand.tmp 63), type := 23, pos := "ref.go:44", after := #[{ on := 17, ground := Go.Ground.data }], guard := none }) (v := ?_) rfl (by kernel_rfl) (by kernel_rfl) (by kernel_rfl) (fun _ _ _ h => h) (Or.inl ⟨by rfl, ?_⟩) (by assumption) ?_
              rotate_left
              · intro wS hSw
                try dsimp only at hSw
                go_split_ands
                go_simp
                try with_reducible rfl
              try simp only [Act.put, List.setIfInBounds_toArray, List.set_cons_zero, List.set_cons_succ]
              refine wpAnyH_take (i := 20) (oi := { dst := some 66, op := Go.Op.build 34 #[(0, Go.Operand.tmp 48), (1, Go.Operand.tmp 51), (2, Go.Operand.tmp 55), (3, Go.Operand.tmp 58), (4, Go.Operand.tmp 61), (5, Go.Operand.tmp 64), (6, Go.Operand.tmp 65)], type := 34, pos := "ref.go:44", after := #[{ on := 2, ground := Go.Ground.data }, { on := 5, ground := Go.Ground.data }, { on := 9, ground := Go.Ground.data }, { on := 12, ground := Go.Ground.data }, { on := 15, ground := Go.Ground.data }, { on := 18, ground := Go.Ground.data }, { on := 19, ground := Go.Ground.data }], guard := none }) (v := ?_) rfl (by kernel_rfl) (by kernel_rfl) (by kernel_rfl) (fun _ _ _ h => h) (Or.inl ⟨by rfl, ?_⟩) (by assumption) ?_
              rotate_left
              · intro wS hSw
                try dsimp only at hSw
                go_split_ands
                go_simp
                try with_reducible rfl
              try simp only [Act.put, List.setIfInBounds_toArray, List.set_cons_zero, List.set_cons_succ]
              refine wpAnyH_ready (rs := [22]) (by kernel_rfl) (by simp) ?_
              refine AllReadyH.cons (o := { dst := none, op := Go.Op.store 34 (Go.Operand.tmp 6) (Go.Operand.tmp 66), type := 0, pos := "ref.go:44", after := #[{ on := 21, ground := Go.Ground.data }, { on := 20, ground := Go.Ground.data }, { on := 17, ground := Go.Ground.chain }, { on := 0, ground := Go.Ground.phase }, { on := 1, ground := Go.Ground.phase }, { on := 2, ground := Go.Ground.phase }, { on := 3, ground := Go.Ground.phase }, { on := 4, ground := Go.Ground.phase }, { on := 5, ground := Go.Ground.phase }, { on := 6, ground := Go.Ground.phase }, { on := 7, ground := Go.Ground.phase }, { on := 8, ground := Go.Ground.phase }, { on := 9, ground := Go.Ground.phase }, { on := 10, ground := Go.Ground.phase }, { on := 11, ground := Go.Ground.phase }, { on := 12, ground := Go.Ground.phase }, { on := 13, ground := Go.Ground.phase }, { on := 14, ground := Go.Ground.phase }, { on := 15, ground := Go.Ground.phase }, { on := 16, ground := Go.Ground.phase }, { on := 17, ground := Go.Ground.phase }, { on := 18, ground := Go.Ground.phase }, { on := 19, ground := Go.Ground.phase }, { on := 20, ground := Go.Ground.phase }, { on := 21, ground := Go.Ground.phase }], guard := none }) rfl (fun K hK => ?_) AllReadyH.nil
              refine stepStoreRow rfl 34 (.tmp 6) (.tmp 66) rfl W6.heap.size (⟨t12, t16, y8, t20, t32, t29, f⟩ : VP).cs rfl rfl 34 vp0.cs HN7.out (VP.fit _) rfl (VP.one _) ?_
              refine hK.out _ _ (HS.out _ HV8.out.lo HB8.out) (fun hHeld => ?_)
              clear hK K
              try simp only [Act.put, List.setIfInBounds_toArray, List.set_cons_zero, List.set_cons_succ]
              refine wpAnyH_done (by kernel_rfl) ?_ _
              go_wp2_with fail
              go_meet
              exact ⟨_, rfl, HN8.out, HV8.out, HLt6.out⟩
          · go_simp
            refine hK.out _ _ (HS.out _ HV.out.lo HB7.out) (fun hHeld => ?_)
            clear hK K
            try simp only [Act.put, List.setIfInBounds_toArray, List.set_cons_zero, List.set_cons_succ]
            refine wpAnyH_ready (rs := [14]) (by kernel_rfl) (by simp) ?_
            refine AllReadyH.cons (o := { dst := some 60, op := Go.Op.call { callee := Go.Callee.value (Go.Operand.func 39), args := #[Go.Operand.tmp 59, Go.Operand.const (Go.Value.int Go.IntKind.i64 32), Go.Operand.const (Go.Value.int Go.IntKind.i64 3)], argTypes := #[40, 3, 3] }, type := 25, pos := "ref.go:44", after := #[{ on := 13, ground := Go.Ground.data }, { on := 11, ground := Go.Ground.chain }], guard := none }) rfl (fun K hK => ?_) AllReadyH.nil
            go_simp
            go_at_call 39
            refine (HT32.out _ HV.out.lo).mono ?_
            rintro e wt32 ⟨rfl, rfl⟩
            refine hK.out _ _ (HS.out _ HV.out.lo HB7.out) (fun hHeld => ?_)
            clear hK K
            try simp only [Act.put, List.setIfInBounds_toArray, List.set_cons_zero, List.set_cons_succ]
            refine wpAnyH_take (i := 15) (oi := { dst := some 61, op := Go.Op.convert 25 23 (Go.Operand.tmp 60), type := 23, pos := "ref.go:44", after := #[{ on := 14, ground := Go.Ground.data }], guard := none }) (v := ?_) rfl (by kernel_rfl) (by kernel_rfl) (by kernel_rfl) (fun _ _ _ h => h) (Or.inl ⟨by rfl, ?_⟩) (by assumption) ?_
            rotate_left
            · intro wS hSw
              try dsimp only at hSw
              go_split_ands
              go_simp
              try with_reducible rfl
            try simp only [Act.put, List.setIfInBounds_toArray, List.set_cons_zero, List.set_cons_succ]
            refine wpAnyH_ready (rs := [17]) (by kernel_rfl) (by simp) ?_
            refine AllReadyH.cons (o := { dst := some 63, op := Go.Op.call { callee := Go.Callee.value (Go.Operand.func 39), args := #[Go.Operand.tmp 62, Go.Operand.const (Go.Value.int Go.IntKind.i64 29), Go.Operand.const (Go.Value.int Go.IntKind.i64 3)], argTypes := #[40, 3, 3] }, type := 25, pos := "ref.go:44", after := #[{ on := 16, ground := Go.Ground.data }, { on := 14, ground := Go.Ground.chain }], guard := none }) rfl (fun K hK => ?_) AllReadyH.nil
            go_simp
            go_at_call 39
            refine (HT29.out _ HV.out.lo).mono ?_
            rintro e wt29 ⟨rfl, rfl⟩
            refine hK.out _ _ (HS.out _ HV.out.lo HB7.out) (fun hHeld => ?_)
            clear hK K
            try simp only [Act.put, List.setIfInBounds_toArray, List.set_cons_zero, List.set_cons_succ]
            refine wpAnyH_take (i := 18) (oi := { dst := some 64, op := Go.Op.convert 25 23 (Go.Operand.tmp 63), type := 23, pos := "ref.go:44", after := #[{ on := 17, ground := Go.Ground.data }], guard := none }) (v := ?_) rfl (by kernel_rfl) (by kernel_rfl) (by kernel_rfl) (fun _ _ _ h => h) (Or.inl ⟨by rfl, ?_⟩) (by assumption) ?_
            rotate_left
            · intro wS hSw
              try dsimp only at hSw
              go_split_ands
              go_simp
              try with_reducible rfl
            try simp only [Act.put, List.setIfInBounds_toArray, List.set_cons_zero, List.set_cons_succ]
            refine wpAnyH_take (i := 20) (oi := { dst := some 66, op := Go.Op.build 34 #[(0, Go.Operand.tmp 48), (1, Go.Operand.tmp 51), (2, Go.Operand.tmp 55), (3, Go.Operand.tmp 58), (4, Go.Operand.tmp 61), (5, Go.Operand.tmp 64), (6, Go.Operand.tmp 65)], type := 34, pos := "ref.go:44", after := #[{ on := 2, ground := Go.Ground.data }, { on := 5, ground := Go.Ground.data }, { on := 9, ground := Go.Ground.data }, { on := 12, ground := Go.Ground.data }, { on := 15, ground := Go.Ground.data }, { on := 18, ground := Go.Ground.data }, { on := 19, ground := Go.Ground.data }], guard := none }) (v := ?_) rfl (by kernel_rfl) (by kernel_rfl) (by kernel_rfl) (fun _ _ _ h => h) (Or.inl ⟨by rfl, ?_⟩) (by assumption) ?_
            rotate_left
            · intro wS hSw
              try dsimp only at hSw
              go_split_ands
              go_simp
              try with_reducible rfl
            try simp only [Act.put, List.setIfInBounds_toArray, List.set_cons_zero, List.set_cons_succ]
            refine wpAnyH_ready (rs := [22]) (by kernel_rfl) (by simp) ?_
            refine AllReadyH.cons (o := { dst := none, op := Go.Op.store 34 (Go.Operand.tmp 6) (Go.Operand.tmp 66), type := 0, pos := "ref.go:44", after := #[{ on := 21, ground := Go.Ground.data }, { on := 20, ground := Go.Ground.data }, { on := 17, ground := Go.Ground.chain }, { on := 0, ground := Go.Ground.phase }, { on := 1, ground := Go.Ground.phase }, { on := 2, ground := Go.Ground.phase }, { on := 3, ground := Go.Ground.phase }, { on := 4, ground := Go.Ground.phase }, { on := 5, ground := Go.Ground.phase }, { on := 6, ground := Go.Ground.phase }, { on := 7, ground := Go.Ground.phase }, { on := 8, ground := Go.Ground.phase }, { on := 9, ground := Go.Ground.phase }, { on := 10, ground := Go.Ground.phase }, { on := 11, ground := Go.Ground.phase }, { on := 12, ground := Go.Ground.phase }, { on := 13, ground := Go.Ground.phase }, { on := 14, ground := Go.Ground.phase }, { on := 15, ground := Go.Ground.phase }, { on := 16, ground := Go.Ground.phase }, { on := 17, ground := Go.Ground.phase }, { on := 18, ground := Go.Ground.phase }, { on := 19, ground := Go.Ground.phase }, { on := 20, ground := Go.Ground.phase }, { on := 21, ground := Go.Ground.phase }], guard := none }) rfl (fun K hK => ?_) AllReadyH.nil
            refine stepStoreRow rfl 34 (.tmp 6) (.tmp 66) rfl W6.heap.size (⟨t12, t16, y8, t20, t32, t29, f⟩ : VP).cs rfl rfl 34 vp0.cs HN7.out (VP.fit _) rfl (VP.one _) ?_
            refine hK.out _ _ (HS.out _ HV8.out.lo HB8.out) (fun hHeld => ?_)
            clear hK K
            try simp only [Act.put, List.setIfInBounds_toArray, List.set_cons_zero, List.set_cons_succ]
            refine wpAnyH_done (by kernel_rfl) ?_ _
            go_wp2_with fail
            go_meet
            exact ⟨_, rfl, HN8.out, HV8.out, HLt6.out⟩
        · go_simp
          refine hK.out _ _ (HS.out _ HV.out.lo HB7.out) (fun hHeld => ?_)
          clear hK K
          try simp only [Act.put, List.setIfInBounds_toArray, List.set_cons_zero, List.set_cons_succ]
          refine wpAnyH_ready (rs := [11]) (by kernel_rfl) (by simp) ?_
          refine AllReadyH.cons (o := { dst := some 57, op := Go.Op.call { callee := Go.Callee.value (Go.Operand.func 39), args := #[Go.Operand.tmp 56, Go.Operand.const (Go.Value.int Go.IntKind.i64 20), Go.Operand.const (Go.Value.int Go.IntKind.i64 2)], argTypes := #[40, 3, 3] }, type := 25, pos := "ref.go:44", after := #[{ on := 10, ground := Go.Ground.data }, { on := 4, ground := Go.Ground.chain }], guard := none }) rfl (fun K hK => ?_) AllReadyH.nil
          go_simp
          go_at_call 39
          refine (HT20.out _ HV.out.lo).mono ?_
          rintro e wt20 ⟨rfl, rfl⟩
          refine hK.out _ _ (HS.out _ HV.out.lo HB7.out) (fun hHeld => ?_)
          clear hK K
          try simp only [Act.put, List.setIfInBounds_toArray, List.set_cons_zero, List.set_cons_succ]
          refine wpAnyH_take (i := 12) (oi := { dst := some 58, op := Go.Op.convert 25 3 (Go.Operand.tmp 57), type := 3, pos := "ref.go:44", after := #[{ on := 11, ground := Go.Ground.data }], guard := none }) (v := ?_) rfl (by kernel_rfl) (by kernel_rfl) (by kernel_rfl) (fun _ _ _ h => h) (Or.inl ⟨by rfl, ?_⟩) (by assumption) ?_
          rotate_left
          · intro wS hSw
            try dsimp only at hSw
            go_split_ands
            go_simp
            try with_reducible rfl
          try simp only [Act.put, List.setIfInBounds_toArray, List.set_cons_zero, List.set_cons_succ]
          refine wpAnyH_ready (rs := [14]) (by kernel_rfl) (by simp) ?_
          refine AllReadyH.cons (o := { dst := some 60, op := Go.Op.call { callee := Go.Callee.value (Go.Operand.func 39), args := #[Go.Operand.tmp 59, Go.Operand.const (Go.Value.int Go.IntKind.i64 32), Go.Operand.const (Go.Value.int Go.IntKind.i64 3)], argTypes := #[40, 3, 3] }, type := 25, pos := "ref.go:44", after := #[{ on := 13, ground := Go.Ground.data }, { on := 11, ground := Go.Ground.chain }], guard := none }) rfl (fun K hK => ?_) AllReadyH.nil
          go_simp
          go_at_call 39
          refine (HT32.out _ HV.out.lo).mono ?_
          rintro e wt32 ⟨rfl, rfl⟩
          refine hK.out _ _ (HS.out _ HV.out.lo HB7.out) (fun hHeld => ?_)
          clear hK K
          try simp only [Act.put, List.setIfInBounds_toArray, List.set_cons_zero, List.set_cons_succ]
          refine wpAnyH_take (i := 15) (oi := { dst := some 61, op := Go.Op.convert 25 23 (Go.Operand.tmp 60), type := 23, pos := "ref.go:44", after := #[{ on := 14, ground := Go.Ground.data }], guard := none }) (v := ?_) rfl (by kernel_rfl) (by kernel_rfl) (by kernel_rfl) (fun _ _ _ h => h) (Or.inl ⟨by rfl, ?_⟩) (by assumption) ?_
          rotate_left
          · intro wS hSw
            try dsimp only at hSw
            go_split_ands
            go_simp
            try with_reducible rfl
          try simp only [Act.put, List.setIfInBounds_toArray, List.set_cons_zero, List.set_cons_succ]
          refine wpAnyH_ready (rs := [17]) (by kernel_rfl) (by simp) ?_
          refine AllReadyH.cons (o := { dst := some 63, op := Go.Op.call { callee := Go.Callee.value (Go.Operand.func 39), args := #[Go.Operand.tmp 62, Go.Operand.const (Go.Value.int Go.IntKind.i64 29), Go.Operand.const (Go.Value.int Go.IntKind.i64 3)], argTypes := #[40, 3, 3] }, type := 25, pos := "ref.go:44", after := #[{ on := 16, ground := Go.Ground.data }, { on := 14, ground := Go.Ground.chain }], guard := none }) rfl (fun K hK => ?_) AllReadyH.nil
          go_simp
          go_at_call 39
          refine (HT29.out _ HV.out.lo).mono ?_
          rintro e wt29 ⟨rfl, rfl⟩
          refine hK.out _ _ (HS.out _ HV.out.lo HB7.out) (fun hHeld => ?_)
          clear hK K
          try simp only [Act.put, List.setIfInBounds_toArray, List.set_cons_zero, List.set_cons_succ]
          refine wpAnyH_take (i := 18) (oi := { dst := some 64, op := Go.Op.convert 25 23 (Go.Operand.tmp 63), type := 23, pos := "ref.go:44", after := #[{ on := 17, ground := Go.Ground.data }], guard := none }) (v := ?_) rfl (by kernel_rfl) (by kernel_rfl) (by kernel_rfl) (fun _ _ _ h => h) (Or.inl ⟨by rfl, ?_⟩) (by assumption) ?_
          rotate_left
          · intro wS hSw
            try dsimp only at hSw
            go_split_ands
            go_simp
            try with_reducible rfl
          try simp only [Act.put, List.setIfInBounds_toArray, List.set_cons_zero, List.set_cons_succ]
          refine wpAnyH_take (i := 20) (oi := { dst := some 66, op := Go.Op.build 34 #[(0, Go.Operand.tmp 48), (1, Go.Operand.tmp 51), (2, Go.Operand.tmp 55), (3, Go.Operand.tmp 58), (4, Go.Operand.tmp 61), (5, Go.Operand.tmp 64), (6, Go.Operand.tmp 65)], type := 34, pos := "ref.go:44", after := #[{ on := 2, ground := Go.Ground.data }, { on := 5, ground := Go.Ground.data }, { on := 9, ground := Go.Ground.data }, { on := 12, ground := Go.Ground.data }, { on := 15, ground := Go.Ground.data }, { on := 18, ground := Go.Ground.data }, { on := 19, ground := Go.Ground.data }], guard := none }) (v := ?_) rfl (by kernel_rfl) (by kernel_rfl) (by kernel_rfl) (fun _ _ _ h => h) (Or.inl ⟨by rfl, ?_⟩) (by assumption) ?_
          rotate_left
          · intro wS hSw
            try dsimp only at hSw
            go_split_ands
            go_simp
            try with_reducible rfl
          try simp only [Act.put, List.setIfInBounds_toArray, List.set_cons_zero, List.set_cons_succ]
          refine wpAnyH_ready (rs := [22]) (by kernel_rfl) (by simp) ?_
          refine AllReadyH.cons (o := { dst := none, op := Go.Op.store 34 (Go.Operand.tmp 6) (Go.Operand.tmp 66), type := 0, pos := "ref.go:44", after := #[{ on := 21, ground := Go.Ground.data }, { on := 20, ground := Go.Ground.data }, { on := 17, ground := Go.Ground.chain }, { on := 0, ground := Go.Ground.phase }, { on := 1, ground := Go.Ground.phase }, { on := 2, ground := Go.Ground.phase }, { on := 3, ground := Go.Ground.phase }, { on := 4, ground := Go.Ground.phase }, { on := 5, ground := Go.Ground.phase }, { on := 6, ground := Go.Ground.phase }, { on := 7, ground := Go.Ground.phase }, { on := 8, ground := Go.Ground.phase }, { on := 9, ground := Go.Ground.phase }, { on := 10, ground := Go.Ground.phase }, { on := 11, ground := Go.Ground.phase }, { on := 12, ground := Go.Ground.phase }, { on := 13, ground := Go.Ground.phase }, { on := 14, ground := Go.Ground.phase }, { on := 15, ground := Go.Ground.phase }, { on := 16, ground := Go.Ground.phase }, { on := 17, ground := Go.Ground.phase }, { on := 18, ground := Go.Ground.phase }, { on := 19, ground := Go.Ground.phase }, { on := 20, ground := Go.Ground.phase }, { on := 21, ground := Go.Ground.phase }], guard := none }) rfl (fun K hK => ?_) AllReadyH.nil
          refine stepStoreRow rfl 34 (.tmp 6) (.tmp 66) rfl W6.heap.size (⟨t12, t16, y8, t20, t32, t29, f⟩ : VP).cs rfl rfl 34 vp0.cs HN7.out (VP.fit _) rfl (VP.one _) ?_
          refine hK.out _ _ (HS.out _ HV8.out.lo HB8.out) (fun hHeld => ?_)
          clear hK K
          try simp only [Act.put, List.setIfInBounds_toArray, List.set_cons_zero, List.set_cons_succ]
          refine wpAnyH_done (by kernel_rfl) ?_ _
          go_wp2_with fail
          go_meet
          exact ⟨_, rfl, HN8.out, HV8.out, HLt6.out⟩
      · go_simp
        refine hK.out _ _ (HS.out _ HV.out.lo HB7.out) (fun hHeld => ?_)
        clear hK K
        try simp only [Act.put, List.setIfInBounds_toArray, List.set_cons_zero, List.set_cons_succ]
        refine wpAnyH_ready (rs := [4]) (by kernel_rfl) (by simp) ?_
        refine AllReadyH.cons (o := { dst := some 50, op := Go.Op.call { callee := Go.Callee.value (Go.Operand.func 39), args := #[Go.Operand.tmp 49, Go.Operand.const (Go.Value.int Go.IntKind.i64 16), Go.Operand.const (Go.Value.int Go.IntKind.i64 4)], argTypes := #[40, 3, 3] }, type := 25, pos := "ref.go:44", after := #[{ on := 3, ground := Go.Ground.data }, { on := 1, ground := Go.Ground.chain }], guard := none }) rfl (fun K hK => ?_) AllReadyH.nil
        go_simp
        go_at_call 39
        refine (HT16.out _ HV.out.lo).mono ?_
        rintro e wt16 ⟨rfl, rfl⟩
        refine hK.out _ _ (HS.out _ HV.out.lo HB7.out) (fun hHeld => ?_)
        clear hK K
        try simp only [Act.put, List.setIfInBounds_toArray, List.set_cons_zero, List.set_cons_succ]
        refine wpAnyH_take (i := 5) (oi := { dst := some 51, op := Go.Op.convert 25 24 (Go.Operand.tmp 50), type := 24, pos := "ref.go:44", after := #[{ on := 4, ground := Go.Ground.data }], guard := none }) (v := ?_) rfl (by kernel_rfl) (by kernel_rfl) (by kernel_rfl) (fun _ _ _ h => h) (Or.inl ⟨by rfl, ?_⟩) (by assumption) ?_
        rotate_left
        · intro wS hSw
          try dsimp only at hSw
          go_split_ands
          go_simp
          try with_reducible rfl
        try simp only [Act.put, List.setIfInBounds_toArray, List.set_cons_zero, List.set_cons_succ]
        refine wpAnyH_ready (rs := [11]) (by kernel_rfl) (by simp) ?_
        refine AllReadyH.cons (o := { dst := some 57, op := Go.Op.call { callee := Go.Callee.value (Go.Operand.func 39), args := #[Go.Operand.tmp 56, Go.Operand.const (Go.Value.int Go.IntKind.i64 20), Go.Operand.const (Go.Value.int Go.IntKind.i64 2)], argTypes := #[40, 3, 3] }, type := 25, pos := "ref.go:44", after := #[{ on := 10, ground := Go.Ground.data }, { on := 4, ground := Go.Ground.chain }], guard := none }) rfl (fun K hK => ?_) AllReadyH.nil
        go_simp
        go_at_call 39
        refine (HT20.out _ HV.out.lo).mono ?_
        rintro e wt20 ⟨rfl, rfl⟩
        refine hK.out _ _ (HS.out _ HV.out.lo HB7.out) (fun hHeld => ?_)
        clear hK K
        try simp only [Act.put, List.setIfInBounds_toArray, List.set_cons_zero, List.set_cons_succ]
        refine wpAnyH_take (i := 12) (oi := { dst := some 58, op := Go.Op.convert 25 3 (Go.Operand.tmp 57), type := 3, pos := "ref.go:44", after := #[{ on := 11, ground := Go.Ground.data }], guard := none }) (v := ?_) rfl (by kernel_rfl) (by kernel_rfl) (by kernel_rfl) (fun _ _ _ h => h) (Or.inl ⟨by rfl, ?_⟩) (by assumption) ?_
        rotate_left
        · intro wS hSw
          try dsimp only at hSw
          go_split_ands
          go_simp
          try with_reducible rfl
        try simp only [Act.put, List.setIfInBounds_toArray, List.set_cons_zero, List.set_cons_succ]
        refine wpAnyH_ready (rs := [14]) (by kernel_rfl) (by simp) ?_
        refine AllReadyH.cons (o := { dst := some 60, op := Go.Op.call { callee := Go.Callee.value (Go.Operand.func 39), args := #[Go.Operand.tmp 59, Go.Operand.const (Go.Value.int Go.IntKind.i64 32), Go.Operand.const (Go.Value.int Go.IntKind.i64 3)], argTypes := #[40, 3, 3] }, type := 25, pos := "ref.go:44", after := #[{ on := 13, ground := Go.Ground.data }, { on := 11, ground := Go.Ground.chain }], guard := none }) rfl (fun K hK => ?_) AllReadyH.nil
        go_simp
        go_at_call 39
        refine (HT32.out _ HV.out.lo).mono ?_
        rintro e wt32 ⟨rfl, rfl⟩
        refine hK.out _ _ (HS.out _ HV.out.lo HB7.out) (fun hHeld => ?_)
        clear hK K
        try simp only [Act.put, List.setIfInBounds_toArray, List.set_cons_zero, List.set_cons_succ]
        refine wpAnyH_take (i := 15) (oi := { dst := some 61, op := Go.Op.convert 25 23 (Go.Operand.tmp 60), type := 23, pos := "ref.go:44", after := #[{ on := 14, ground := Go.Ground.data }], guard := none }) (v := ?_) rfl (by kernel_rfl) (by kernel_rfl) (by kernel_rfl) (fun _ _ _ h => h) (Or.inl ⟨by rfl, ?_⟩) (by assumption) ?_
        rotate_left
        · intro wS hSw
          try dsimp only at hSw
          go_split_ands
          go_simp
          try with_reducible rfl
        try simp only [Act.put, List.setIfInBounds_toArray, List.set_cons_zero, List.set_cons_succ]
        refine wpAnyH_ready (rs := [17]) (by kernel_rfl) (by simp) ?_
        refine AllReadyH.cons (o := { dst := some 63, op := Go.Op.call { callee := Go.Callee.value (Go.Operand.func 39), args := #[Go.Operand.tmp 62, Go.Operand.const (Go.Value.int Go.IntKind.i64 29), Go.Operand.const (Go.Value.int Go.IntKind.i64 3)], argTypes := #[40, 3, 3] }, type := 25, pos := "ref.go:44", after := #[{ on := 16, ground := Go.Ground.data }, { on := 14, ground := Go.Ground.chain }], guard := none }) rfl (fun K hK => ?_) AllReadyH.nil
        go_simp
        go_at_call 39
        refine (HT29.out _ HV.out.lo).mono ?_
        rintro e wt29 ⟨rfl, rfl⟩
        refine hK.out _ _ (HS.out _ HV.out.lo HB7.out) (fun hHeld => ?_)
        clear hK K
        try simp only [Act.put, List.setIfInBounds_toArray, List.set_cons_zero, List.set_cons_succ]
        refine wpAnyH_take (i := 18) (oi := { dst := some 64, op := Go.Op.convert 25 23 (Go.Operand.tmp 63), type := 23, pos := "ref.go:44", after := #[{ on := 17, ground := Go.Ground.data }], guard := none }) (v := ?_) rfl (by kernel_rfl) (by kernel_rfl) (by kernel_rfl) (fun _ _ _ h => h) (Or.inl ⟨by rfl, ?_⟩) (by assumption) ?_
        rotate_left
        · intro wS hSw
          try dsimp only at hSw
          go_split_ands
          go_simp
          try with_reducible rfl
        try simp only [Act.put, List.setIfInBounds_toArray, List.set_cons_zero, List.set_cons_succ]
        refine wpAnyH_take (i := 20) (oi := { dst := some 66, op := Go.Op.build 34 #[(0, Go.Operand.tmp 48), (1, Go.Operand.tmp 51), (2, Go.Operand.tmp 55), (3, Go.Operand.tmp 58), (4, Go.Operand.tmp 61), (5, Go.Operand.tmp 64), (6, Go.Operand.tmp 65)], type := 34, pos := "ref.go:44", after := #[{ on := 2, ground := Go.Ground.data }, { on := 5, ground := Go.Ground.data }, { on := 9, ground := Go.Ground.data }, { on := 12, ground := Go.Ground.data }, { on := 15, ground := Go.Ground.data }, { on := 18, ground := Go.Ground.data }, { on := 19, ground := Go.Ground.data }], guard := none }) (v := ?_) rfl (by kernel_rfl) (by kernel_rfl) (by kernel_rfl) (fun _ _ _ h => h) (Or.inl ⟨by rfl, ?_⟩) (by assumption) ?_
        rotate_left
        · intro wS hSw
          try dsimp only at hSw
          go_split_ands
          go_simp
          try with_reducible rfl
        try simp only [Act.put, List.setIfInBounds_toArray, List.set_cons_zero, List.set_cons_succ]
        refine wpAnyH_ready (rs := [22]) (by kernel_rfl) (by simp) ?_
        refine AllReadyH.cons (o := { dst := none, op := Go.Op.store 34 (Go.Operand.tmp 6) (Go.Operand.tmp 66), type := 0, pos := "ref.go:44", after := #[{ on := 21, ground := Go.Ground.data }, { on := 20, ground := Go.Ground.data }, { on := 17, ground := Go.Ground.chain }, { on := 0, ground := Go.Ground.phase }, { on := 1, ground := Go.Ground.phase }, { on := 2, ground := Go.Ground.phase }, { on := 3, ground := Go.Ground.phase }, { on := 4, ground := Go.Ground.phase }, { on := 5, ground := Go.Ground.phase }, { on := 6, ground := Go.Ground.phase }, { on := 7, ground := Go.Ground.phase }, { on := 8, ground := Go.Ground.phase }, { on := 9, ground := Go.Ground.phase }, { on := 10, ground := Go.Ground.phase }, { on := 11, ground := Go.Ground.phase }, { on := 12, ground := Go.Ground.phase }, { on := 13, ground := Go.Ground.phase }, { on := 14, ground := Go.Ground.phase }, { on := 15, ground := Go.Ground.phase }, { on := 16, ground := Go.Ground.phase }, { on := 17, ground := Go.Ground.phase }, { on := 18, ground := Go.Ground.phase }, { on := 19, ground := Go.Ground.phase }, { on := 20, ground := Go.Ground.phase }, { on := 21, ground := Go.Ground.phase }], guard := none }) rfl (fun K hK => ?_) AllReadyH.nil
        refine stepStoreRow rfl 34 (.tmp 6) (.tmp 66) rfl W6.heap.size (⟨t12, t16, y8, t20, t32, t29, f⟩ : VP).cs rfl rfl 34 vp0.cs HN7.out (VP.fit _) rfl (VP.one _) ?_
        refine hK.out _ _ (HS.out _ HV8.out.lo HB8.out) (fun hHeld => ?_)
        clear hK K
        try simp only [Act.put, List.setIfInBounds_toArray, List.set_cons_zero, List.set_cons_succ]
        refine wpAnyH_done (by kernel_rfl) ?_ _
        go_wp2_with fail
        go_meet
        exact ⟨_, rfl, HN8.out, HV8.out, HLt6.out⟩
    · go_simp
      refine hK.out _ _ (HS.out _ HV.out.lo HB7.out) (fun hHeld => ?_)
      clear hK K
      try simp only [Act.put, List.setIfInBounds_toArray, List.set_cons_zero, List.set_cons_succ]
      refine wpAnyH_ready (rs := [1]) (by kernel_rfl) (by simp) ?_
      refine AllReadyH.cons (o := { dst := some 47, op := Go.Op.call { callee := Go.Callee.value (Go.Operand.func 39), args := #[Go.Operand.tmp 46, Go.Operand.const (Go.Value.int Go.IntKind.i64 12), Go.Operand.const (Go.Value.int Go.IntKind.i64 4)], argTypes := #[40, 3, 3] }, type := 25, pos := "ref.go:44", after := #[{ on := 0, ground := Go.Ground.data }], guard := none }) rfl (fun K hK => ?_) AllReadyH.nil
      go_simp
      go_at_call 39
      refine (HT12.out _ HV.out.lo).mono ?_
      rintro e wt12 ⟨rfl, rfl⟩
      refine hK.out _ _ (HS.out _ HV.out.lo HB7.out) (fun hHeld => ?_)
      clear hK K
      try simp only [Act.put, List.setIfInBounds_toArray, List.set_cons_zero, List.set_cons_succ]
      refine wpAnyH_take (i := 2) (oi := { dst := some 48, op := Go.Op.convert 25 24 (Go.Operand.tmp 47), type := 24, pos := "ref.go:44", after := #[{ on := 1, ground := Go.Ground.data }], guard := none }) (v := ?_) rfl (by kernel_rfl) (by kernel_rfl) (by kernel_rfl) (fun _ _ _ h => h) (Or.inl ⟨by rfl, ?_⟩) (by assumption) ?_
      rotate_left
      · intro wS hSw
        try dsimp only at hSw
        go_split_ands
        go_simp
        try with_reducible rfl
      try simp only [Act.put, List.setIfInBounds_toArray, List.set_cons_zero, List.set_cons_succ]
      refine wpAnyH_ready (rs := [4]) (by kernel_rfl) (by simp) ?_
      refine AllReadyH.cons (o := { dst := some 50, op := Go.Op.call { callee := Go.Callee.value (Go.Operand.func 39), args := #[Go.Operand.tmp 49, Go.Operand.const (Go.Value.int Go.IntKind.i64 16), Go.Operand.const (Go.Value.int Go.IntKind.i64 4)], argTypes := #[40, 3, 3] }, type := 25, pos := "ref.go:44", after := #[{ on := 3, ground := Go.Ground.data }, { on := 1, ground := Go.Ground.chain }], guard := none }) rfl (fun K hK => ?_) AllReadyH.nil
      go_simp
      go_at_call 39
      refine (HT16.out _ HV.out.lo).mono ?_
      rintro e wt16 ⟨rfl, rfl⟩
      refine hK.out _ _ (HS.out _ HV.out.lo HB7.out) (fun hHeld => ?_)
      clear hK K
      try simp only [Act.put, List.setIfInBounds_toArray, List.set_cons_zero, List.set_cons_succ]
      refine wpAnyH_take (i := 5) (oi := { dst := some 51, op := Go.Op.convert 25 24 (Go.Operand.tmp 50), type := 24, pos := "ref.go:44", after := #[{ on := 4, ground := Go.Ground.data }], guard := none }) (v := ?_) rfl (by kernel_rfl) (by kernel_rfl) (by kernel_rfl) (fun _ _ _ h => h) (Or.inl ⟨by rfl, ?_⟩) (by assumption) ?_
      rotate_left
      · intro wS hSw
        try dsimp only at hSw
        go_split_ands
        go_simp
        try with_reducible rfl
      try simp only [Act.put, List.setIfInBounds_toArray, List.set_cons_zero, List.set_cons_succ]
      refine wpAnyH_ready (rs := [11]) (by kernel_rfl) (by simp) ?_
      refine AllReadyH.cons (o := { dst := some 57, op := Go.Op.call { callee := Go.Callee.value (Go.Operand.func 39), args := #[Go.Operand.tmp 56, Go.Operand.const (Go.Value.int Go.IntKind.i64 20), Go.Operand.const (Go.Value.int Go.IntKind.i64 2)], argTypes := #[40, 3, 3] }, type := 25, pos := "ref.go:44", after := #[{ on := 10, ground := Go.Ground.data }, { on := 4, ground := Go.Ground.chain }], guard := none }) rfl (fun K hK => ?_) AllReadyH.nil
      go_simp
      go_at_call 39
      refine (HT20.out _ HV.out.lo).mono ?_
      rintro e wt20 ⟨rfl, rfl⟩
      refine hK.out _ _ (HS.out _ HV.out.lo HB7.out) (fun hHeld => ?_)
      clear hK K
      try simp only [Act.put, List.setIfInBounds_toArray, List.set_cons_zero, List.set_cons_succ]
      refine wpAnyH_take (i := 12) (oi := { dst := some 58, op := Go.Op.convert 25 3 (Go.Operand.tmp 57), type := 3, pos := "ref.go:44", after := #[{ on := 11, ground := Go.Ground.data }], guard := none }) (v := ?_) rfl (by kernel_rfl) (by kernel_rfl) (by kernel_rfl) (fun _ _ _ h => h) (Or.inl ⟨by rfl, ?_⟩) (by assumption) ?_
      rotate_left
      · intro wS hSw
        try dsimp only at hSw
        go_split_ands
        go_simp
        try with_reducible rfl
      try simp only [Act.put, List.setIfInBounds_toArray, List.set_cons_zero, List.set_cons_succ]
      refine wpAnyH_ready (rs := [14]) (by kernel_rfl) (by simp) ?_
      refine AllReadyH.cons (o := { dst := some 60, op := Go.Op.call { callee := Go.Callee.value (Go.Operand.func 39), args := #[Go.Operand.tmp 59, Go.Operand.const (Go.Value.int Go.IntKind.i64 32), Go.Operand.const (Go.Value.int Go.IntKind.i64 3)], argTypes := #[40, 3, 3] }, type := 25, pos := "ref.go:44", after := #[{ on := 13, ground := Go.Ground.data }, { on := 11, ground := Go.Ground.chain }], guard := none }) rfl (fun K hK => ?_) AllReadyH.nil
      go_simp
      go_at_call 39
      refine (HT32.out _ HV.out.lo).mono ?_
      rintro e wt32 ⟨rfl, rfl⟩
      refine hK.out _ _ (HS.out _ HV.out.lo HB7.out) (fun hHeld => ?_)
      clear hK K
      try simp only [Act.put, List.setIfInBounds_toArray, List.set_cons_zero, List.set_cons_succ]
      refine wpAnyH_take (i := 15) (oi := { dst := some 61, op := Go.Op.convert 25 23 (Go.Operand.tmp 60), type := 23, pos := "ref.go:44", after := #[{ on := 14, ground := Go.Ground.data }], guard := none }) (v := ?_) rfl (by kernel_rfl) (by kernel_rfl) (by kernel_rfl) (fun _ _ _ h => h) (Or.inl ⟨by rfl, ?_⟩) (by assumption) ?_
      rotate_left
      · intro wS hSw
        try dsimp only at hSw
        go_split_ands
        go_simp
        try with_reducible rfl
      try simp only [Act.put, List.setIfInBounds_toArray, List.set_cons_zero, List.set_cons_succ]
      refine wpAnyH_ready (rs := [17]) (by kernel_rfl) (by simp) ?_
      refine AllReadyH.cons (o := { dst := some 63, op := Go.Op.call { callee := Go.Callee.value (Go.Operand.func 39), args := #[Go.Operand.tmp 62, Go.Operand.const (Go.Value.int Go.IntKind.i64 29), Go.Operand.const (Go.Value.int Go.IntKind.i64 3)], argTypes := #[40, 3, 3] }, type := 25, pos := "ref.go:44", after := #[{ on := 16, ground := Go.Ground.data }, { on := 14, ground := Go.Ground.chain }], guard := none }) rfl (fun K hK => ?_) AllReadyH.nil
      go_simp
      go_at_call 39
      refine (HT29.out _ HV.out.lo).mono ?_
      rintro e wt29 ⟨rfl, rfl⟩
      refine hK.out _ _ (HS.out _ HV.out.lo HB7.out) (fun hHeld => ?_)
      clear hK K
      try simp only [Act.put, List.setIfInBounds_toArray, List.set_cons_zero, List.set_cons_succ]
      refine wpAnyH_take (i := 18) (oi := { dst := some 64, op := Go.Op.convert 25 23 (Go.Operand.tmp 63), type := 23, pos := "ref.go:44", after := #[{ on := 17, ground := Go.Ground.data }], guard := none }) (v := ?_) rfl (by kernel_rfl) (by kernel_rfl) (by kernel_rfl) (fun _ _ _ h => h) (Or.inl ⟨by rfl, ?_⟩) (by assumption) ?_
      rotate_left
      · intro wS hSw
        try dsimp only at hSw
        go_split_ands
        go_simp
        try with_reducible rfl
      try simp only [Act.put, List.setIfInBounds_toArray, List.set_cons_zero, List.set_cons_succ]
      refine wpAnyH_take (i := 20) (oi := { dst := some 66, op := Go.Op.build 34 #[(0, Go.Operand.tmp 48), (1, Go.Operand.tmp 51), (2, Go.Operand.tmp 55), (3, Go.Operand.tmp 58), (4, Go.Operand.tmp 61), (5, Go.Operand.tmp 64), (6, Go.Operand.tmp 65)], type := 34, pos := "ref.go:44", after := #[{ on := 2, ground := Go.Ground.data }, { on := 5, ground := Go.Ground.data }, { on := 9, ground := Go.Ground.data }, { on := 12, ground := Go.Ground.data }, { on := 15, ground := Go.Ground.data }, { on := 18, ground := Go.Ground.data }, { on := 19, ground := Go.Ground.data }], guard := none }) (v := ?_) rfl (by kernel_rfl) (by kernel_rfl) (by kernel_rfl) (fun _ _ _ h => h) (Or.inl ⟨by rfl, ?_⟩) (by assumption) ?_
      rotate_left
      · intro wS hSw
        try dsimp only at hSw
        go_split_ands
        go_simp
        try with_reducible rfl
      try simp only [Act.put, List.setIfInBounds_toArray, List.set_cons_zero, List.set_cons_succ]
      refine wpAnyH_ready (rs := [22]) (by kernel_rfl) (by simp) ?_
      refine AllReadyH.cons (o := { dst := none, op := Go.Op.store 34 (Go.Operand.tmp 6) (Go.Operand.tmp 66), type := 0, pos := "ref.go:44", after := #[{ on := 21, ground := Go.Ground.data }, { on := 20, ground := Go.Ground.data }, { on := 17, ground := Go.Ground.chain }, { on := 0, ground := Go.Ground.phase }, { on := 1, ground := Go.Ground.phase }, { on := 2, ground := Go.Ground.phase }, { on := 3, ground := Go.Ground.phase }, { on := 4, ground := Go.Ground.phase }, { on := 5, ground := Go.Ground.phase }, { on := 6, ground := Go.Ground.phase }, { on := 7, ground := Go.Ground.phase }, { on := 8, ground := Go.Ground.phase }, { on := 9, ground := Go.Ground.phase }, { on := 10, ground := Go.Ground.phase }, { on := 11, ground := Go.Ground.phase }, { on := 12, ground := Go.Ground.phase }, { on := 13, ground := Go.Ground.phase }, { on := 14, ground := Go.Ground.phase }, { on := 15, ground := Go.Ground.phase }, { on := 16, ground := Go.Ground.phase }, { on := 17, ground := Go.Ground.phase }, { on := 18, ground := Go.Ground.phase }, { on := 19, ground := Go.Ground.phase }, { on := 20, ground := Go.Ground.phase }, { on := 21, ground := Go.Ground.phase }], guard := none }) rfl (fun K hK => ?_) AllReadyH.nil
      refine stepStoreRow rfl 34 (.tmp 6) (.tmp 66) rfl W6.heap.size (⟨t12, t16, y8, t20, t32, t29, f⟩ : VP).cs rfl rfl 34 vp0.cs HN7.out (VP.fit _) rfl (VP.one _) ?_
      refine hK.out _ _ (HS.out _ HV8.out.lo HB8.out) (fun hHeld => ?_)
      clear hK K
      try simp only [Act.put, List.setIfInBounds_toArray, List.set_cons_zero, List.set_cons_succ]
      refine wpAnyH_done (by kernel_rfl) ?_ _
      go_wp2_with fail
      go_meet
      exact ⟨_, rfl, HN8.out, HV8.out, HLt6.out⟩
  case rest =>
    obtain ⟨B, rfl, hN, hV, hBl⟩ := hcut
    obtain ⟨y, hy⟩ : ∃ y, (⟨t12, t16, y8, t20, t32, t29, f⟩ : VP) = y := ⟨_, rfl⟩
    rw [hy] at hN HVr HYt
    have HN := Lib.hid hN
    have HV := Lib.hid hV
    clear hN hV hy
    by_cases hc : vchk y = 0
    case neg =>
      have HF : Hid (vread bs = (vp0, 3, 0)) := Lib.hid (HVr.out _ (if_neg (fun h => hc h.1)))
      obtain ⟨ec, hec⟩ : ∃ ec, vchk y = ec := ⟨_, rfl⟩
      have HY : Hid (∀ W : World, Calls Try.prog 16 #[.agg y.cs] W fun e w' => e = .returned (.tuple #[.slice none 0 0, .int .i64 ec]) ∧ Below W.heap.size W w') := Lib.hid (fun W => hec ▸ rbytes8_no y HYt.out hc W)
      rw [hec] at hc
      have hne : (ec != 0) = true := by simpa using hc
      clear hec hc
      go_wp2_with (refine wpList_load_row rfl 34 (.tmp 6) rfl B rfl 34 y.cs (0, 0) _ HN.out Try.underlying34 rfl y.fit ?_)
      refine (HY.out _).mono ?_
      rintro e w12 ⟨rfl, hb⟩
      have HW12 := Lib.hid (HV.out.below hb)
      clear hb
      go_wp2_with (refine wpList_store_row rfl 34 (.tmp 2) (.tmp 81) rfl w.heap.size vp0.cs rfl rfl 34 vp0.cs HW12.out.zer (VP.fit vp0) rfl (VP.one vp0) ?_; have HW13 := Lib.hid (HW12.out.row vp0); generalize w12.setRow w.heap.size vp0.cs = W13 at HW13 ⊢; have q0 := HW13.out.flt.cell 0; have q1 := HW13.out.flt.cell 1; have p0 := HW13.out.flt.free 0; have p1 := HW13.out.flt.free 1; simp only [List.getElem?_toArray, List.getElem?_cons_zero, List.getElem?_cons_succ] at q0 q1)
      have HE := Lib.hid (HW13.out.set 3 0)
      exact bodyPost_ret (v := .tuple #[.agg vp0.cs, .agg #[.int .i64 3, .int .i64 0]]) (rvread_results _ rfl rfl HE.out) rfl ⟨by rw [HF.out], HE.out.lo⟩
    obtain ⟨m, hm9⟩ : ∃ m, (venc y).length = m := ⟨_, rfl⟩
    have HY : Hid (∀ W : World, Calls Try.prog 16 #[.agg y.cs] W fun e w' => ∃ b c, e = .returned (.tuple #[.slice (some ⟨b, 0, none⟩) m c, .int .i64 0]) ∧ Row w' b c (venc y) ∧ W.heap.size ≤ b ∧ Below W.heap.size W w') := Lib.hid (fun W => by
      have h := rbytes8_yes y HYt.out hc W
      unfold VEnc at h
      rw [hm9] at h
      exact h)
    have HM := Lib.hid hm9
    have HCk := Lib.hid hc
    clear hm9 hc
    by_cases hq : venc y = bs
    · have HF : Hid (vread bs = (y, 0, 0)) := Lib.hid (HVr.out _ (if_pos ⟨HCk.out, hq⟩))
      have HQ := Lib.hid hq
      clear hq
      go_wp2_with (refine wpList_load_row rfl 34 (.tmp 6) rfl B rfl 34 y.cs (0, 0) _ HN.out Try.underlying34 rfl y.fit ?_)
      refine (HY.out _).mono ?_
      rintro e w12 ⟨b7, c7, rfl, hrow, hsz7, hb⟩
      have hst2 := arr_string (row_arr hrow rfl) (by rw [venc_len]; omega)
      rw [HM.out] at hst2
      clear hrow hsz7
      have HW12 := Lib.hid (HV.out.below hb)
      have HN12 := Lib.hid (HN.out.below hb)
      clear hb HN HV
      have hst1 := arr_string (HAr.out _ HW12.out.lo) HPos.out
      rw [HQ.out] at hst2
      generalize strOfNums bs = S at hst1 hst2
      go_wp2_with (first | (refine wpList_load_row rfl 34 (.tmp 6) rfl B rfl 34 y.cs (0, 0) _ HN12.out Try.underlying34 rfl y.fit ?_) | (refine wpList_store_row rfl 34 (.tmp 2) (.tmp 83) rfl w.heap.size y.cs rfl rfl 34 vp0.cs HW12.out.zer (VP.fit y) rfl (VP.one y) ?_; have HW13 := Lib.hid (HW12.out.row y); generalize w12.setRow w.heap.size y.cs = W13 at HW13 ⊢; have q0 := HW13.out.flt.cell 0; have q1 := HW13.out.flt.cell 1; have p0 := HW13.out.flt.free 0; have p1 := HW13.out.flt.free 1; simp only [List.getElem?_toArray, List.getElem?_cons_zero, List.getElem?_cons_succ] at q0 q1))
      have HE := Lib.hid (HW13.out.set 0 0)
      exact bodyPost_ret (v := .tuple #[.agg y.cs, .agg #[.int .i64 0, .int .i64 0]]) (rvread_results _ rfl rfl HE.out) rfl ⟨by rw [HF.out], HE.out.lo⟩
    · have HF : Hid (vread bs = (vp0, 3, 0)) := Lib.hid (HVr.out _ (if_neg (fun h => hq h.2)))
      have HQ := Lib.hid hq
      clear hq
      go_wp2_with (refine wpList_load_row rfl 34 (.tmp 6) rfl B rfl 34 y.cs (0, 0) _ HN.out Try.underlying34 rfl y.fit ?_)
      refine (HY.out _).mono ?_
      rintro e w12 ⟨b7, c7, rfl, hrow, hsz7, hb⟩
      have hst2 := arr_string (row_arr hrow rfl) (by rw [venc_len]; omega)
      rw [HM.out] at hst2
      clear hrow hsz7
      have HW12 := Lib.hid (HV.out.below hb)
      have HN12 := Lib.hid (HN.out.below hb)
      clear hb HN HV
      have hst1 := arr_string (HAr.out _ HW12.out.lo) HPos.out
      have hns2 : ((strOfNums (venc y)).toList == (strOfNums bs).toList) = false := by
        rw [ByteArray.toList_eq, ByteArray.toList_eq, strOfNums_data, strOfNums_data]
        exact beq_eq_false_iff_ne.2 (fun e => HQ.out (ofnat_inj _ _ (venc_byte y) HBy.out e))
      generalize strOfNums bs = S at hst1 hns2
      generalize strOfNums (venc y) = S2 at hst2 hns2
      go_wp2_with (first | (refine wpList_store_row rfl 34 (.tmp 2) (.tmp 81) rfl w.heap.size vp0.cs rfl rfl 34 vp0.cs HW12.out.zer (VP.fit vp0) rfl (VP.one vp0) ?_; have HW13 := Lib.hid (HW12.out.row vp0); generalize w12.setRow w.heap.size vp0.cs = W13 at HW13 ⊢; have q0 := HW13.out.flt.cell 0; have q1 := HW13.out.flt.cell 1; have p0 := HW13.out.flt.free 0; have p1 := HW13.out.flt.free 1; simp only [List.getElem?_toArray, List.getElem?_cons_zero, List.getElem?_cons_succ] at q0 q1))
      have HE := Lib.hid (HW13.out.set 3 0)
      exact bodyPost_ret (v := .tuple #[.agg vp0.cs, .agg #[.int .i64 3, .int .i64 0]]) (rvread_results _ rfl rfl HE.out) rfl ⟨by rw [HF.out], HE.out.lo⟩



end Go.Proofs.Ytgdfpmnbofnjfaa
