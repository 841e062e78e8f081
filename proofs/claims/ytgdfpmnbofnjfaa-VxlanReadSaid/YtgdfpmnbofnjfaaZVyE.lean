/- Packets that carry frames: the document's Read; written by gen_vyd.py. -/
import Derived.Test.YtgdfpmnbofnjfaaZVyD
namespace Go.Proofs.Ytgdfpmnbofnjfaa
open Go.RowKit Go.Shelf
set_option linter.unusedVariables false
set_option linter.unusedSimpArgs false
set_option maxRecDepth 100000

set_option maxHeartbeats 8000000 in
theorem rvread_in_a (b o c : Nat) (bs : List Int) (w : World) (hs : Sl w b o bs) (hl : 36 ≤ bs.length) (hm : bs.length ≤ 1000) (hby : ∀ v ∈ bs, 0 ≤ v ∧ v ≤ 255) (hcap : bs.length ≤ c) (h17 : nm bs 9 1 = 17) (h47 : nm bs 22 2 = 4789) (hc : 36 < c) (h0 : (fread (bs.drop 36)).2.1 ≠ 0) :
    Calls Try.prog 21 #[.slice (some ⟨b, o, none⟩) bs.length c] w (VReads w bs) := by
  have hblt := cell_block (hs 0 (by omega))
  have hblt' : b < w.heap.size := hblt
  have HSl : Hid (∀ W, Below w.heap.size w W → Sl W b o bs) := Lib.hid (fun W hb j hj => (hb.cell (p := ⟨b, o + j, none⟩) hblt).trans (hs j hj))
  have h9 := hs 9 (by omega)
  have hb9 := hby bs[9] (List.getElem_mem _)
  have hn9 : nm bs 9 1 = bs[9] := nm_one (by omega)
  have harr : Arr w (.slice (some ⟨b, o + 36, none⟩) (bs.length - 36) (c - 36)) (bs.drop 36) := .inr ⟨_, c - 36, by rw [List.length_drop], Sl.at_ (fun j hj => by
    rw [List.length_drop] at hj
    have h := hs (36 + j) (by omega)
    rw [← Nat.add_assoc] at h
    rw [h]
    simp)⟩
  have hby2 : ∀ v ∈ bs.drop 36, 0 ≤ v ∧ v ≤ 255 := fun v hv => hby v (List.mem_of_mem_drop hv)
  have hdl : (bs.drop 36).length = bs.length - 36 := List.length_drop
  obtain ⟨f, hf⟩ : ∃ f, (fread (bs.drop 36)).1 = f := ⟨_, rfl⟩
  obtain ⟨er, her⟩ : ∃ er, (fread (bs.drop 36)).2.1 = er := ⟨_, rfl⟩
  obtain ⟨i, hi⟩ : ∃ i, (fread (bs.drop 36)).2.2 = i := ⟨_, rfl⟩
  have HRd : Hid (∀ W, Below w.heap.size w W → Calls Try.prog 40 #[.slice (some ⟨b, o + 36, none⟩) (bs.length - 36) (c - 36)] W fun e w' => e = .returned (.tuple #[.agg #[.int .u64 f.s, .int .u64 f.d, .int .i64 f.k, .int .i64 f.op, .int .u64 f.sm, .int .u32 f.si, .int .u64 f.tm, .int .u32 f.ti, .int .u32 f.hs, .int .u32 f.hd, .int .i64 f.tl, .int .i64 f.pr, .int .i64 f.sp, .int .i64 f.dp, .int .u64 f.da], .agg #[.int .i64 er, .int .i64 i]]) ∧ Below W.heap.size W w') := Lib.hid (fun W hb => by
    have h := rread_any _ (bs.drop 36) W (harr.below hb) (by omega) hby2
    unfold ReadsTo at h
    rw [hf, her, hi] at h
    exact h)
  have HF : Hid (vread bs = (vp0, er, i + 36)) := Lib.hid (by unfold vread; rw [if_neg (show ¬ bs.length < 36 by omega), if_neg (by rw [h17]; simp), if_neg (by rw [h47]; simp), if_pos h0, her, hi])
  obtain ⟨_, hi0, hi1⟩ := fread_bad h0
  rw [hi] at hi0 hi1
  have hwi : IntKind.i64.wrap (i + 36) = i + 36 := IntWalk.i64_in _ (by omega)
  rw [her] at h0
  have hne : (er != 0) = true := by simpa using h0
  obtain ⟨n, hn⟩ : ∃ n, bs.length = n := ⟨_, rfl⟩
  have h9c : w.cell? ⟨b, o + 9, none⟩ = some (.int .u8 17) := by rw [h9, ← hn9, h17]
  have HC := Lib.hid h9c
  clear h9 h9c hb9
  have HT22 : Hid (∀ W, Below w.heap.size w W → Calls Try.prog 39 #[.slice (some ⟨b, o, none⟩) n c, .int .i64 22, .int .i64 2] W fun e w' => e = .returned (.int .u64 4789) ∧ W = w') := Lib.hid (fun W hb => by
    have h := rtake_any b o c n bs hn 22 2 (by decide) (by decide) (by omega) (by omega) hby W (HSl.out W hb)
    rw [h47] at h
    exact h)
  rw [hn] at hl hcap HRd ⊢
  have e1 : ¬ ((n : Int) < 36) := by omega
  have e3 : (9 : Int) < (n : Int) := by omega
  have e4 : (36 : Int) ≤ (n : Int) := by omega
  have e5 : (36 : Int) < (c : Int) := by omega
  have e6 : 36 < c := by omega
  clear hs hby hn9 hn harr hby2 hdl hf her hi hi1 hi0 h0 hm
  obtain ⟨W2, hW2⟩ : ∃ W2, ((w.alloc (.cells #[.int .u32 0, .int .u32 0, .int .i64 0, .int .i64 0, .int .u32 0, .int .u32 0, .int .u64 0, .int .u64 0, .int .i64 0, .int .i64 0, .int .u64 0, .int .u32 0, .int .u64 0, .int .u32 0, .int .u32 0, .int .u32 0, .int .i64 0, .int .i64 0, .int .i64 0, .int .i64 0, .int .u64 0] 34)).alloc (.cells #[.int .i64 0, .int .i64 0] 37)) = W2 := ⟨_, rfl⟩
  have HW : Hid (VRW w vp0 0 0 W2) := Lib.hid (hW2 ▸ VRW.start w)
  go_enter Try.func21, Try.ntmps21
  go_upto_region 1 with fail
  try rw [hW2]
  clear hW2
  have c9 := (HW.out.lo.cell (p := ⟨b, o + 9, none⟩) hblt').trans HC.out
  go_wp2_with fail
  refine (HT22.out _ HW.out.lo).mono ?_
  rintro e wt22 ⟨rfl, rfl⟩
  go_wp2_with fail
  refine (HRd.out _ HW.out.lo).mono ?_
  rintro e w5 ⟨rfl, hb⟩
  have HW5 := Lib.hid (HW.out.below hb)
  clear hb HW
  go_upto_region 9 with fail
  obtain ⟨W4, hW4⟩ : ∃ W4, (w5.alloc (.cells #[.int .u64 f.s, .int .u64 f.d, .int .i64 f.k, .int .i64 f.op, .int .u64 f.sm, .int .u32 f.si, .int .u64 f.tm, .int .u32 f.ti, .int .u32 f.hs, .int .u32 f.hd, .int .i64 f.tl, .int .i64 f.pr, .int .i64 f.sp, .int .i64 f.dp, .int .u64 f.da] 32)).alloc (.cells #[.int .i64 er, .int .i64 i] 37) = W4 := ⟨_, rfl⟩
  have HW4 : Hid (VRW w vp0 0 0 W4.drew) := Lib.hid (hW4 ▸ HW5.out.below (((Below.refl _ w5).alloc (Nat.le_refl _) _).alloc (by simp) _).drew)
  have HF4 : Hid (Has W4.drew (w5.heap.size + 1) 37 #[.int .i64 er, .int .i64 i]) := Lib.hid (hW4 ▸ by
    have h1 := Has.new (w5.alloc (.cells #[.int .u64 f.s, .int .u64 f.d, .int .i64 f.k, .int .i64 f.op, .int .u64 f.sm, .int .u32 f.si, .int .u64 f.tm, .int .u32 f.ti, .int .u32 f.hs, .int .u32 f.hd, .int .i64 f.tl, .int .i64 f.pr, .int .i64 f.sp, .int .i64 f.dp, .int .u64 f.da] 32)) 37 #[.int .i64 er, .int .i64 i]
    rw [World.size_alloc] at h1
    exact h1)
  have HLt : Hid (w.heap.size + 1 < w5.heap.size + 1) := Lib.hid (by have := HW5.out.flt.lt; omega)
  try rw [hW4]
  clear hW4 HW5
  have HS : Hid (∀ W : World, Has W (w5.heap.size + 1) 37 #[.int .i64 er, .int .i64 i] → (W.cell? ⟨(w5.heap.size + 1), 0, none⟩ = some (.int .i64 er) ∧ W.cell? ⟨(w5.heap.size + 1), 1, none⟩ = some (.int .i64 i))) := Lib.hid (fun W h => ⟨h.cell 0, h.cell 1⟩)
  refine wp_region_held_drew (S := (fun w' => w'.cell? ⟨(w5.heap.size + 1), 0, none⟩ = some (.int .i64 er) ∧ w'.cell? ⟨(w5.heap.size + 1), 1, none⟩ = some (.int .i64 i))) (by kernel_rfl) (HS.out _ HF4.out) (fun hHeld => ?_)
  refine wpAnyH_take (i := 0) (oi := { dst := some 39, op := Go.Op.build 34 #[], type := 34, pos := "ref.go:42", after := #[], guard := none }) (v := ?_) rfl (by kernel_rfl) (by kernel_rfl) (by kernel_rfl) (fun _ _ _ h => h) (Or.inl ⟨by rfl, ?_⟩) (by assumption) ?_
  rotate_left
  · intro wS hSw
    try dsimp only at hSw
    go_split_ands
    go_simp
    try with_reducible rfl
  try simp only [Act.put, List.setIfInBounds_toArray, List.set_cons_zero, List.set_cons_succ]
  refine wpAnyH_take (i := 1) (oi := { dst := some 40, op := Go.Op.fieldAddr 37 (Go.Operand.tmp 5) 0, type := 0, pos := "ref.go:42", after := #[{ on := 7, ground := Go.Ground.gcOnly Go.Departure.lateStores }], guard := none }) (v := ?_) rfl (by kernel_rfl) (by kernel_rfl) (by kernel_rfl) (fun _ _ _ h => h) (Or.inl ⟨by rfl, ?_⟩) (by assumption) ?_
  rotate_left
  · intro wS hSw
    try dsimp only at hSw
    go_split_ands
    go_simp
    try with_reducible rfl
  try simp only [Act.put, List.setIfInBounds_toArray, List.set_cons_zero, List.set_cons_succ]
  refine wpAnyH_take (i := 2) (oi := { dst := some 41, op := Go.Op.load 35 (Go.Operand.tmp 40), type := 35, pos := "ref.go:42", after := #[{ on := 1, ground := Go.Ground.data }, { on := 7, ground := Go.Ground.gcOnly Go.Departure.lateStores }], guard := none }) (v := ?_) rfl (by kernel_rfl) (by kernel_rfl) (by kernel_rfl) (fun _ _ _ h => h) (Or.inl ⟨by rfl, ?_⟩) (by assumption) ?_
  rotate_left
  · intro wS hSw
    try dsimp only at hSw
    go_split_ands
    go_simp
    try with_reducible rfl
  try simp only [Act.put, List.setIfInBounds_toArray, List.set_cons_zero, List.set_cons_succ]
  refine wpAnyH_take (i := 3) (oi := { dst := some 42, op := Go.Op.fieldAddr 37 (Go.Operand.tmp 5) 1, type := 0, pos := "ref.go:42", after := #[{ on := 7, ground := Go.Ground.gcOnly Go.Departure.lateStores }], guard := none }) (v := ?_) rfl (by kernel_rfl) (by kernel_rfl) (by kernel_rfl) (fun _ _ _ h => h) (Or.inl ⟨by rfl, ?_⟩) (by assumption) ?_
  rotate_left
  · intro wS hSw
    try dsimp only at hSw
    go_split_ands
    go_simp
    try with_reducible rfl
  try simp only [Act.put, List.setIfInBounds_toArray, List.set_cons_zero, List.set_cons_succ]
  refine wpAnyH_take (i := 4) (oi := { dst := some 43, op := Go.Op.load 3 (Go.Operand.tmp 42), type := 3, pos := "ref.go:42", after := #[{ on := 3, ground := Go.Ground.data }, { on := 7, ground := Go.Ground.gcOnly Go.Departure.lateStores }], guard := none }) (v := ?_) rfl (by kernel_rfl) (by kernel_rfl) (by kernel_rfl) (fun _ _ _ h => h) (Or.inl ⟨by rfl, ?_⟩) (by assumption) ?_
  rotate_left
  · intro wS hSw
    try dsimp only at hSw
    go_split_ands
    go_simp
    try with_reducible rfl
  try simp only [Act.put, List.setIfInBounds_toArray, List.set_cons_zero, List.set_cons_succ]
  refine wpAnyH_take (i := 5) (oi := { dst := some 44, op := Go.Op.binOp Go.BinOp.add 3 (Go.Operand.tmp 43) (Go.Operand.const (Go.Value.int Go.IntKind.i64 36)) 3, type := 3, pos := "ref.go:42", after := #[{ on := 4, ground := Go.Ground.data }, { on := 7, ground := Go.Ground.gcOnly Go.Departure.lateStores }], guard := none }) (v := ?_) rfl (by kernel_rfl) (by kernel_rfl) (by kernel_rfl) (fun _ _ _ h => h) (Or.inl ⟨by rfl, ?_⟩) (by assumption) ?_
  rotate_left
  · intro wS hSw
    try dsimp only at hSw
    go_split_ands
    go_simp
    try with_reducible rfl
  try simp only [Act.put, List.setIfInBounds_toArray, List.set_cons_zero, List.set_cons_succ]
  refine wpAnyH_take (i := 6) (oi := { dst := some 45, op := Go.Op.build 37 #[(0, Go.Operand.tmp 41), (1, Go.Operand.tmp 44)], type := 37, pos := "ref.go:42", after := #[{ on := 2, ground := Go.Ground.data }, { on := 5, ground := Go.Ground.data }, { on := 7, ground := Go.Ground.gcOnly Go.Departure.lateStores }], guard := none }) (v := ?_) rfl (by kernel_rfl) (by kernel_rfl) (by kernel_rfl) (fun _ _ _ h => h) (Or.inl ⟨by rfl, ?_⟩) (by assumption) ?_
  rotate_left
  · intro wS hSw
    try dsimp only at hSw
    go_split_ands
    go_simp
    try with_reducible rfl
  try simp only [Act.put, List.setIfInBounds_toArray, List.set_cons_zero, List.set_cons_succ]
  refine wpAnyH_ready (rs := [7]) (by kernel_rfl) (by simp) ?_
  refine AllReadyH.cons (o := { dst := none, op := Go.Op.store 34 (Go.Operand.tmp 2) (Go.Operand.tmp 39), type := 0, pos := "ref.go:42", after := #[{ on := 0, ground := Go.Ground.data }, { on := 0, ground := Go.Ground.phase }, { on := 1, ground := Go.Ground.textOnly Go.Departure.lateStores }, { on := 2, ground := Go.Ground.textOnly Go.Departure.lateStores }, { on := 3, ground := Go.Ground.textOnly Go.Departure.lateStores }, { on := 4, ground := Go.Ground.textOnly Go.Departure.lateStores }, { on := 5, ground := Go.Ground.textOnly Go.Departure.lateStores }, { on := 6, ground := Go.Ground.textOnly Go.Departure.lateStores }], guard := none }) rfl (fun K hK => ?_) AllReadyH.nil
  refine stepStoreRow rfl 34 (.tmp 2) (.tmp 39) rfl w.heap.size vp0.cs rfl rfl 34 vp0.cs HW4.out.zer (VP.fit vp0) rfl (VP.one vp0) ?_
  have HW5 := Lib.hid (HW4.out.row vp0)
  have HF5 : Hid (Has (W4.drew.setRow w.heap.size vp0.cs) (w5.heap.size + 1) 37 #[.int .i64 er, .int .i64 i]) := Lib.hid (HF4.out.grown (Only.row _) (by intro h9; injection h9 with h9; have := HLt.out; omega))
  refine hK.out _ _ (HS.out _ HF5.out) (fun hHeld => ?_)
  clear hK K
  try simp only [Act.put, List.setIfInBounds_toArray, List.set_cons_zero, List.set_cons_succ]
  generalize W4.drew.setRow w.heap.size vp0.cs = W5 at *
  clear HW4 HF4
  refine wpAnyH_ready (rs := [8]) (by kernel_rfl) (by simp) ?_
  refine AllReadyH.cons (o := { dst := none, op := Go.Op.store 37 (Go.Operand.tmp 3) (Go.Operand.tmp 45), type := 0, pos := "ref.go:42", after := #[{ on := 6, ground := Go.Ground.data }, { on := 7, ground := Go.Ground.chain }, { on := 0, ground := Go.Ground.phase }, { on := 1, ground := Go.Ground.phase }, { on := 2, ground := Go.Ground.phase }, { on := 3, ground := Go.Ground.phase }, { on := 4, ground := Go.Ground.phase }, { on := 5, ground := Go.Ground.phase }, { on := 6, ground := Go.Ground.phase }, { on := 7, ground := Go.Ground.phase }], guard := none }) rfl (fun K hK => ?_) AllReadyH.nil
  have q0 := HW5.out.flt.cell 0
  have q1 := HW5.out.flt.cell 1
  have p0 := HW5.out.flt.free 0
  have p1 := HW5.out.flt.free 1
  simp only [List.getElem?_toArray, List.getElem?_cons_zero, List.getElem?_cons_succ] at q0 q1
  go_simp
  refine hK.out _ _ (HS.out _ ?_) (fun hHeld => ?_)
  · exact (HF5.out.grown (only_set (only_refl _ (w.heap.size + 1)) (p := ⟨w.heap.size + 1, 0, none⟩) (.inl rfl) _) (by intro h9; injection h9 with h9; have := HLt.out; omega)).grown (only_set (only_refl _ (w.heap.size + 1)) (p := ⟨w.heap.size + 1, 1, none⟩) (.inl rfl) _) (by intro h9; injection h9 with h9; have := HLt.out; omega)
  clear hK K
  try simp only [Act.put, List.setIfInBounds_toArray, List.set_cons_zero, List.set_cons_succ]
  refine wpAnyH_done (by kernel_rfl) ?_ _
  have HE := Lib.hid (HW5.out.set er (i + 36))
  go_wp2_with fail
  exact bodyPost_ret (v := .tuple #[.agg vp0.cs, .agg #[.int .i64 er, .int .i64 (i + 36)]]) (rvread_results _ rfl rfl HE.out) rfl ⟨by rw [HF.out], HE.out.lo⟩



set_option maxHeartbeats 8000000 in
theorem rvread_in_c (b o c : Nat) (bs : List Int) (w : World) (hs : Sl w b o bs) (hl : 36 ≤ bs.length) (hm : bs.length ≤ 1000) (hby : ∀ v ∈ bs, 0 ≤ v ∧ v ≤ 255) (hcap : bs.length ≤ c) (h17 : nm bs 9 1 = 17) (h47 : nm bs 22 2 = 4789) (hc : c = 36) (h0 : (fread (bs.drop 36)).2.1 ≠ 0) :
    Calls Try.prog 21 #[.slice (some ⟨b, o, none⟩) bs.length c] w (VReads w bs) := by
  have hblt := cell_block (hs 0 (by omega))
  have hblt' : b < w.heap.size := hblt
  have HSl : Hid (∀ W, Below w.heap.size w W → Sl W b o bs) := Lib.hid (fun W hb j hj => (hb.cell (p := ⟨b, o + j, none⟩) hblt).trans (hs j hj))
  have h9 := hs 9 (by omega)
  have hb9 := hby bs[9] (List.getElem_mem _)
  have hn9 : nm bs 9 1 = bs[9] := nm_one (by omega)
  have hn36 : bs.length = 36 := by omega
  subst hc
  have hd : bs.drop 36 = [] := List.drop_eq_nil_of_le (by omega)
  have harr : Arr w (.slice (some ⟨b, o, none⟩) 0 0) (bs.drop 36) := .inr ⟨_, 0, by rw [hd]; rfl, fun j u hu => by rw [hd] at hu; simp at hu⟩
  have hby2 : ∀ v ∈ bs.drop 36, 0 ≤ v ∧ v ≤ 255 := fun v hv => hby v (List.mem_of_mem_drop hv)
  have hdl : (bs.drop 36).length = bs.length - 36 := List.length_drop
  obtain ⟨f, hf⟩ : ∃ f, (fread (bs.drop 36)).1 = f := ⟨_, rfl⟩
  obtain ⟨er, her⟩ : ∃ er, (fread (bs.drop 36)).2.1 = er := ⟨_, rfl⟩
  obtain ⟨i, hi⟩ : ∃ i, (fread (bs.drop 36)).2.2 = i := ⟨_, rfl⟩
  have HRd : Hid (∀ W, Below w.heap.size w W → Calls Try.prog 40 #[.slice (some ⟨b, o, none⟩) 0 0] W fun e w' => e = .returned (.tuple #[.agg #[.int .u64 f.s, .int .u64 f.d, .int .i64 f.k, .int .i64 f.op, .int .u64 f.sm, .int .u32 f.si, .int .u64 f.tm, .int .u32 f.ti, .int .u32 f.hs, .int .u32 f.hd, .int .i64 f.tl, .int .i64 f.pr, .int .i64 f.sp, .int .i64 f.dp, .int .u64 f.da], .agg #[.int .i64 er, .int .i64 i]]) ∧ Below W.heap.size W w') := Lib.hid (fun W hb => by
    have h := rread_any _ (bs.drop 36) W (harr.below hb) (by omega) hby2
    unfold ReadsTo at h
    rw [hf, her, hi] at h
    exact h)
  have HF : Hid (vread bs = (vp0, er, i + 36)) := Lib.hid (by unfold vread; rw [if_neg (show ¬ bs.length < 36 by omega), if_neg (by rw [h17]; simp), if_neg (by rw [h47]; simp), if_pos h0, her, hi])
  obtain ⟨_, hi0, hi1⟩ := fread_bad h0
  rw [hi] at hi0 hi1
  have hwi : IntKind.i64.wrap (i + 36) = i + 36 := IntWalk.i64_in _ (by omega)
  rw [her] at h0
  have hne : (er != 0) = true := by simpa using h0
  obtain ⟨n, hn⟩ : ∃ n, bs.length = n := ⟨_, rfl⟩
  have h9c : w.cell? ⟨b, o + 9, none⟩ = some (.int .u8 17) := by rw [h9, ← hn9, h17]
  have HC := Lib.hid h9c
  clear h9 h9c hb9
  have HT22 : Hid (∀ W, Below w.heap.size w W → Calls Try.prog 39 #[.slice (some ⟨b, o, none⟩) n 36, .int .i64 22, .int .i64 2] W fun e w' => e = .returned (.int .u64 4789) ∧ W = w') := Lib.hid (fun W hb => by
    have h := rtake_any b o 36 n bs hn 22 2 (by decide) (by decide) (by omega) (by omega) hby W (HSl.out W hb)
    rw [h47] at h
    exact h)
  rw [hn] at hn36
  subst hn36
  rw [hn]
  clear hs hby hn9 hn harr hby2 hdl hf her hi hi1 hi0 h0 hm hd hl hcap
  obtain ⟨W2, hW2⟩ : ∃ W2, ((w.alloc (.cells #[.int .u32 0, .int .u32 0, .int .i64 0, .int .i64 0, .int .u32 0, .int .u32 0, .int .u64 0, .int .u64 0, .int .i64 0, .int .i64 0, .int .u64 0, .int .u32 0, .int .u64 0, .int .u32 0, .int .u32 0, .int .u32 0, .int .i64 0, .int .i64 0, .int .i64 0, .int .i64 0, .int .u64 0] 34)).alloc (.cells #[.int .i64 0, .int .i64 0] 37)) = W2 := ⟨_, rfl⟩
  have HW : Hid (VRW w vp0 0 0 W2) := Lib.hid (hW2 ▸ VRW.start w)
  go_enter Try.func21, Try.ntmps21
  go_upto_region 1 with fail
  try rw [hW2]
  clear hW2
  have c9 := (HW.out.lo.cell (p := ⟨b, o + 9, none⟩) hblt').trans HC.out
  go_wp2_with fail
  refine (HT22.out _ HW.out.lo).mono ?_
  rintro e wt22 ⟨rfl, rfl⟩
  go_wp2_with fail
  refine (HRd.out _ HW.out.lo).mono ?_
  rintro e w5 ⟨rfl, hb⟩
  have HW5 := Lib.hid (HW.out.below hb)
  clear hb HW
  go_upto_region 9 with fail
  obtain ⟨W4, hW4⟩ : ∃ W4, (w5.alloc (.cells #[.int .u64 f.s, .int .u64 f.d, .int .i64 f.k, .int .i64 f.op, .int .u64 f.sm, .int .u32 f.si, .int .u64 f.tm, .int .u32 f.ti, .int .u32 f.hs, .int .u32 f.hd, .int .i64 f.tl, .int .i64 f.pr, .int .i64 f.sp, .int .i64 f.dp, .int .u64 f.da] 32)).alloc (.cells #[.int .i64 er, .int .i64 i] 37) = W4 := ⟨_, rfl⟩
  have HW4 : Hid (VRW w vp0 0 0 W4.drew) := Lib.hid (hW4 ▸ HW5.out.below (((Below.refl _ w5).alloc (Nat.le_refl _) _).alloc (by simp) _).drew)
  have HF4 : Hid (Has W4.drew (w5.heap.size + 1) 37 #[.int .i64 er, .int .i64 i]) := Lib.hid (hW4 ▸ by
    have h1 := Has.new (w5.alloc (.cells #[.int .u64 f.s, .int .u64 f.d, .int .i64 f.k, .int .i64 f.op, .int .u64 f.sm, .int .u32 f.si, .int .u64 f.tm, .int .u32 f.ti, .int .u32 f.hs, .int .u32 f.hd, .int .i64 f.tl, .int .i64 f.pr, .int .i64 f.sp, .int .i64 f.dp, .int .u64 f.da] 32)) 37 #[.int .i64 er, .int .i64 i]
    rw [World.size_alloc] at h1
    exact h1)
  have HLt : Hid (w.heap.size + 1 < w5.heap.size + 1) := Lib.hid (by have := HW5.out.flt.lt; omega)
  try rw [hW4]
  clear hW4 HW5
  have HS : Hid (∀ W : World, Has W (w5.heap.size + 1) 37 #[.int .i64 er, .int .i64 i] → (W.cell? ⟨(w5.heap.size + 1), 0, none⟩ = some (.int .i64 er) ∧ W.cell? ⟨(w5.heap.size + 1), 1, none⟩ = some (.int .i64 i))) := Lib.hid (fun W h => ⟨h.cell 0, h.cell 1⟩)
  refine wp_region_held_drew (S := (fun w' => w'.cell? ⟨(w5.heap.size + 1), 0, none⟩ = some (.int .i64 er) ∧ w'.cell? ⟨(w5.heap.size + 1), 1, none⟩ = some (.int .i64 i))) (by kernel_rfl) (HS.out _ HF4.out) (fun hHeld => ?_)
  refine wpAnyH_take (i := 0) (oi := { dst := some 39, op := Go.Op.build 34 #[], type := 34, pos := "ref.go:42", after := #[], guard := none }) (v := ?_) rfl (by kernel_rfl) (by kernel_rfl) (by kernel_rfl) (fun _ _ _ h => h) (Or.inl ⟨by rfl, ?_⟩) (by assumption) ?_
  rotate_left
  · intro wS hSw
    try dsimp only at hSw
    go_split_ands
    go_simp
    try with_reducible rfl
  try simp only [Act.put, List.setIfInBounds_toArray, List.set_cons_zero, List.set_cons_succ]
  refine wpAnyH_take (i := 1) (oi := { dst := some 40, op := Go.Op.fieldAddr 37 (Go.Operand.tmp 5) 0, type := 0, pos := "ref.go:42", after := #[{ on := 7, ground := Go.Ground.gcOnly Go.Departure.lateStores }], guard := none }) (v := ?_) rfl (by kernel_rfl) (by kernel_rfl) (by kernel_rfl) (fun _ _ _ h => h) (Or.inl ⟨by rfl, ?_⟩) (by assumption) ?_
  rotate_left
  · intro wS hSw
    try dsimp only at hSw
    go_split_ands
    go_simp
    try with_reducible rfl
  try simp only [Act.put, List.setIfInBounds_toArray, List.set_cons_zero, List.set_cons_succ]
  refine wpAnyH_take (i := 2) (oi := { dst := some 41, op := Go.Op.load 35 (Go.Operand.tmp 40), type := 35, pos := "ref.go:42", after := #[{ on := 1, ground := Go.Ground.data }, { on := 7, ground := Go.Ground.gcOnly Go.Departure.lateStores }], guard := none }) (v := ?_) rfl (by kernel_rfl) (by kernel_rfl) (by kernel_rfl) (fun _ _ _ h => h) (Or.inl ⟨by rfl, ?_⟩) (by assumption) ?_
  rotate_left
  · intro wS hSw
    try dsimp only at hSw
    go_split_ands
    go_simp
    try with_reducible rfl
  try simp only [Act.put, List.setIfInBounds_toArray, List.set_cons_zero, List.set_cons_succ]
  refine wpAnyH_take (i := 3) (oi := { dst := some 42, op := Go.Op.fieldAddr 37 (Go.Operand.tmp 5) 1, type := 0, pos := "ref.go:42", after := #[{ on := 7, ground := Go.Ground.gcOnly Go.Departure.lateStores }], guard := none }) (v := ?_) rfl (by kernel_rfl) (by kernel_rfl) (by kernel_rfl) (fun _ _ _ h => h) (Or.inl ⟨by rfl, ?_⟩) (by assumption) ?_
  rotate_left
  · intro wS hSw
    try dsimp only at hSw
    go_split_ands
    go_simp
    try with_reducible rfl
  try simp only [Act.put, List.setIfInBounds_toArray, List.set_cons_zero, List.set_cons_succ]
  refine wpAnyH_take (i := 4) (oi := { dst := some 43, op := Go.Op.load 3 (Go.Operand.tmp 42), type := 3, pos := "ref.go:42", after := #[{ on := 3, ground := Go.Ground.data }, { on := 7, ground := Go.Ground.gcOnly Go.Departure.lateStores }], guard := none }) (v := ?_) rfl (by kernel_rfl) (by kernel_rfl) (by kernel_rfl) (fun _ _ _ h => h) (Or.inl ⟨by rfl, ?_⟩) (by assumption) ?_
  rotate_left
  · intro wS hSw
    try dsimp only at hSw
    go_split_ands
    go_simp
    try with_reducible rfl
  try simp only [Act.put, List.setIfInBounds_toArray, List.set_cons_zero, List.set_cons_succ]
  refine wpAnyH_take (i := 5) (oi := { dst := some 44, op := Go.Op.binOp Go.BinOp.add 3 (Go.Operand.tmp 43) (Go.Operand.const (Go.Value.int Go.IntKind.i64 36)) 3, type := 3, pos := "ref.go:42", after := #[{ on := 4, ground := Go.Ground.data }, { on := 7, ground := Go.Ground.gcOnly Go.Departure.lateStores }], guard := none }) (v := ?_) rfl (by kernel_rfl) (by kernel_rfl) (by kernel_rfl) (fun _ _ _ h => h) (Or.inl ⟨by rfl, ?_⟩) (by assumption) ?_
  rotate_left
  · intro wS hSw
    try dsimp only at hSw
    go_split_ands
    go_simp
    try with_reducible rfl
  try simp only [Act.put, List.setIfInBounds_toArray, List.set_cons_zero, List.set_cons_succ]
  refine wpAnyH_take (i := 6) (oi := { dst := some 45, op := Go.Op.build 37 #[(0, Go.Operand.tmp 41), (1, Go.Operand.tmp 44)], type := 37, pos := "ref.go:42", after := #[{ on := 2, ground := Go.Ground.data }, { on := 5, ground := Go.Ground.data }, { on := 7, ground := Go.Ground.gcOnly Go.Departure.lateStores }], guard := none }) (v := ?_) rfl (by kernel_rfl) (by kernel_rfl) (by kernel_rfl) (fun _ _ _ h => h) (Or.inl ⟨by rfl, ?_⟩) (by assumption) ?_
  rotate_left
  · intro wS hSw
    try dsimp only at hSw
    go_split_ands
    go_simp
    try with_reducible rfl
  try simp only [Act.put, List.setIfInBounds_toArray, List.set_cons_zero, List.set_cons_succ]
  refine wpAnyH_ready (rs := [7]) (by kernel_rfl) (by simp) ?_
  refine AllReadyH.cons (o := { dst := none, op := Go.Op.store 34 (Go.Operand.tmp 2) (Go.Operand.tmp 39), type := 0, pos := "ref.go:42", after := #[{ on := 0, ground := Go.Ground.data }, { on := 0, ground := Go.Ground.phase }, { on := 1, ground := Go.Ground.textOnly Go.Departure.lateStores }, { on := 2, ground := Go.Ground.textOnly Go.Departure.lateStores }, { on := 3, ground := Go.Ground.textOnly Go.Departure.lateStores }, { on := 4, ground := Go.Ground.textOnly Go.Departure.lateStores }, { on := 5, ground := Go.Ground.textOnly Go.Departure.lateStores }, { on := 6, ground := Go.Ground.textOnly Go.Departure.lateStores }], guard := none }) rfl (fun K hK => ?_) AllReadyH.nil
  refine stepStoreRow rfl 34 (.tmp 2) (.tmp 39) rfl w.heap.size vp0.cs rfl rfl 34 vp0.cs HW4.out.zer (VP.fit vp0) rfl (VP.one vp0) ?_
  have HW5 := Lib.hid (HW4.out.row vp0)
  have HF5 : Hid (Has (W4.drew.setRow w.heap.size vp0.cs) (w5.heap.size + 1) 37 #[.int .i64 er, .int .i64 i]) := Lib.hid (HF4.out.grown (Only.row _) (by intro h9; injection h9 with h9; have := HLt.out; omega))
  refine hK.out _ _ (HS.out _ HF5.out) (fun hHeld => ?_)
  clear hK K
  try simp only [Act.put, List.setIfInBounds_toArray, List.set_cons_zero, List.set_cons_succ]
  generalize W4.drew.setRow w.heap.size vp0.cs = W5 at *
  clear HW4 HF4
  refine wpAnyH_ready (rs := [8]) (by kernel_rfl) (by simp) ?_
  refine AllReadyH.cons (o := { dst := none, op := Go.Op.store 37 (Go.Operand.tmp 3) (Go.Operand.tmp 45), type := 0, pos := "ref.go:42", after := #[{ on := 6, ground := Go.Ground.data }, { on := 7, ground := Go.Ground.chain }, { on := 0, ground := Go.Ground.phase }, { on := 1, ground := Go.Ground.phase }, { on := 2, ground := Go.Ground.phase }, { on := 3, ground := Go.Ground.phase }, { on := 4, ground := Go.Ground.phase }, { on := 5, ground := Go.Ground.phase }, { on := 6, ground := Go.Ground.phase }, { on := 7, ground := Go.Ground.phase }], guard := none }) rfl (fun K hK => ?_) AllReadyH.nil
  have q0 := HW5.out.flt.cell 0
  have q1 := HW5.out.flt.cell 1
  have p0 := HW5.out.flt.free 0
  have p1 := HW5.out.flt.free 1
  simp only [List.getElem?_toArray, List.getElem?_cons_zero, List.getElem?_cons_succ] at q0 q1
  go_simp
  refine hK.out _ _ (HS.out _ ?_) (fun hHeld => ?_)
  · exact (HF5.out.grown (only_set (only_refl _ (w.heap.size + 1)) (p := ⟨w.heap.size + 1, 0, none⟩) (.inl rfl) _) (by intro h9; injection h9 with h9; have := HLt.out; omega)).grown (only_set (only_refl _ (w.heap.size + 1)) (p := ⟨w.heap.size + 1, 1, none⟩) (.inl rfl) _) (by intro h9; injection h9 with h9; have := HLt.out; omega)
  clear hK K
  try simp only [Act.put, List.setIfInBounds_toArray, List.set_cons_zero, List.set_cons_succ]
  refine wpAnyH_done (by kernel_rfl) ?_ _
  have HE := Lib.hid (HW5.out.set er (i + 36))
  go_wp2_with fail
  exact bodyPost_ret (v := .tuple #[.agg vp0.cs, .agg #[.int .i64 er, .int .i64 (i + 36)]]) (rvread_results _ rfl rfl HE.out) rfl ⟨by rw [HF.out], HE.out.lo⟩



end Go.Proofs.Ytgdfpmnbofnjfaa
