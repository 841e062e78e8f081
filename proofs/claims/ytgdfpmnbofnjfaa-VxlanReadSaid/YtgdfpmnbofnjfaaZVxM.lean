/- Packets that carry frames: Read; written by gen_vxm.py. -/
import Derived.Test.YtgdfpmnbofnjfaaZVr
namespace Go.Proofs.Ytgdfpmnbofnjfaa
open Go.RowKit Go.Shelf
set_option linter.unusedVariables false
set_option linter.unusedSimpArgs false
set_option maxRecDepth 100000

/-- The two results in their blocks. -/
structure VRW (w : World) (x : VP) (er i : Int) (W : World) : Prop where
  zer : Has W w.heap.size 34 x.cs
  flt : Has W (w.heap.size + 1) 37 #[.int .i64 er, .int .i64 i]
  lo : Below w.heap.size w W
section
variable {w W W' : World} {x : VP} {er i : Int}
theorem VRW.below (H : VRW w x er i W) (hb : Below W.heap.size W W') : VRW w x er i W' := ⟨H.zer.below hb, H.flt.below hb, H.lo.trans (hb.mono H.lo.size)⟩
theorem VRW.row (H : VRW w x er i W) (x' : VP) : VRW w x' er i (W.setRow w.heap.size x'.cs) :=
  ⟨setRow_heap _ _ _ _ _ H.zer, H.flt.grown (Only.row _) (by intro h9; injection h9 with h9; omega), setRow_below H.lo (Nat.le_refl _) H.lo.size⟩
theorem VRW.set (H : VRW w x er i W) (er' i' : Int) : VRW w x er' i' ((W.setCell ⟨w.heap.size + 1, 0, none⟩ (.int .i64 er')).setCell ⟨w.heap.size + 1, 1, none⟩ (.int .i64 i')) :=
  ⟨(H.zer.grown (only_set (only_refl W (w.heap.size + 1)) (p := ⟨w.heap.size + 1, 0, none⟩) (.inl rfl) _) (by intro h9; injection h9 with h9; omega)).grown (only_set (only_refl _ (w.heap.size + 1)) (p := ⟨w.heap.size + 1, 1, none⟩) (.inl rfl) _) (by intro h9; injection h9 with h9; omega),
   (H.flt.set_ 0 (.int .i64 er')).set_ 1 (.int .i64 i'), (H.lo.setCell (p := ⟨w.heap.size + 1, 0, none⟩) (by show w.heap.size ≤ w.heap.size + 1; omega) _).setCell (p := ⟨w.heap.size + 1, 1, none⟩) (by show w.heap.size ≤ w.heap.size + 1; omega) _⟩
end
theorem VRW.start (w : World) : VRW w vp0 0 0 ((w.alloc (.cells #[.int .u32 0, .int .u32 0, .int .i64 0, .int .i64 0, .int .u32 0, .int .u32 0, .int .u64 0, .int .u64 0, .int .i64 0, .int .i64 0, .int .u64 0, .int .u32 0, .int .u64 0, .int .u32 0, .int .u32 0, .int .u32 0, .int .i64 0, .int .i64 0, .int .i64 0, .int .i64 0, .int .u64 0] 34)).alloc (.cells #[.int .i64 0, .int .i64 0] 37)) := by
  refine ⟨(Has.new w _ _).below ((Below.refl _ _).alloc (Nat.le_refl _) _), ?_, ((Below.refl _ w).alloc (Nat.le_refl _) _).alloc (by simp) _⟩
  have h1 := Has.new (w.alloc (.cells #[.int .u32 0, .int .u32 0, .int .i64 0, .int .i64 0, .int .u32 0, .int .u32 0, .int .u64 0, .int .u64 0, .int .i64 0, .int .i64 0, .int .u64 0, .int .u32 0, .int .u64 0, .int .u32 0, .int .u32 0, .int .u32 0, .int .i64 0, .int .i64 0, .int .i64 0, .int .i64 0, .int .u64 0] 34)) 37 #[.int .i64 0, .int .i64 0]
  rw [World.size_alloc] at h1
  exact h1
theorem vread_results {w W : World} {x : VP} {er i : Int} (tmps : Array Value) (h2 : tmps[2]?.getD undef = .pointer (some ⟨w.heap.size, 0, none⟩)) (h3 : tmps[3]?.getD undef = .pointer (some ⟨w.heap.size + 1, 0, none⟩)) (q : VRW w x er i W) :
    (results Try.f10 tmps).run Try.prog W = .ok (.tuple #[.agg x.cs, .agg #[.int .i64 er, .int .i64 i]]) W := by
  have hl := run_loadVar_row W w.heap.size 34 34 x.cs (0, 0) _ q.zer Try.underlying34 rfl x.fit
  have hl2 := run_loadVar_row W (w.heap.size + 1) 37 37 #[.int .i64 er, .int .i64 i] (0, 0) _ q.flt Try.underlying37 rfl ft_fit
  simp [results, Try.f10, asAddr, Result.andThen, h2, h3, hl, hl2]


def vsets : Array Value → Nat → List Value → Array Value
  | cs, _, [] => cs
  | cs, o, v :: vs => vsets (cs.setIfInBounds o v) (o + 1) vs
theorem Has.vsets {g : Nat} {t : TypeId} : ∀ (vs : List Value) (o : Nat) (w : World) (cs : Array Value), Has w g t cs → Has (w.setCells g o vs) g t (Go.Proofs.Ytgdfpmnbofnjfaa.vsets cs o vs)
  | [], _, _, _, h => h
  | v :: vs, o, w, cs, h => Has.vsets vs (o + 1) _ _ (h.set_ o v)
theorem Only.vsets {a : World} {g : Nat} : ∀ (vs : List Value) (o : Nat) (W : World), Only a g W → Only a g (W.setCells g o vs)
  | [], _, _, h => h
  | v :: vs, o, W, h => Only.vsets vs (o + 1) _ (only_set h (p := ⟨g, o, none⟩) (.inl rfl) v)
theorem Has.vthere {w : World} {g : Nat} {t : TypeId} {cs : Array Value} (h : Has w g t cs) (o n : Nat) (hn : o + n ≤ cs.size) : w.there g o n := fun j hj => ⟨by rw [h.cell]; simp; omega, h.free _⟩
theorem vsets_cs (q : VP) (f : FR) : Go.Proofs.Ytgdfpmnbofnjfaa.vsets q.cs 6 f.cs.toList = (⟨q.a, q.b, q.t, q.n, q.v, q.m, f⟩ : VP).cs := by
  simp only [Go.Proofs.Ytgdfpmnbofnjfaa.vsets, VP.cs, FR.cs, List.setIfInBounds_toArray, List.set_cons_zero, List.set_cons_succ]
theorem VRW.only {w W W' : World} {x : VP} {er i : Int} (H : VRW w x er i W) {g : Nat} (ho : Only W g W') (h1 : w.heap.size + 1 < g) : VRW w x er i W' :=
  ⟨H.zer.grown ho (by intro h9; injection h9 with h9; omega), H.flt.grown ho (by intro h9; injection h9 with h9; omega), below_only H.lo ho (by omega) H.lo.size⟩
theorem fit36 : (Try.prog.info? 59).map (·.size) = some 36 := by kernel_rfl
theorem arr36 (b o c : Nat) (w : World) : (Instr.arrayAt 59 (.slice (some ⟨b, o, none⟩) 36 c)).run Try.prog w = .ok (.pointer (some ⟨b, o, none⟩)) w := by kernel_rfl

/-- What Read returns. -/
def VReads (w : World) (bs : List Int) (e : Ending) (w' : World) : Prop := e = .returned (.tuple #[.agg (vread bs).1.cs, .agg #[.int .i64 (vread bs).2.1, .int .i64 (vread bs).2.2]]) ∧ Below w.heap.size w w'
theorem vread_hd {bs : List Int} (h : (vhd bs).1 ≠ 0) : vread bs = (vp0, (vhd bs).1, (vhd bs).2) := by
  unfold vhd at h ⊢
  unfold vread
  by_cases h1 : bs.length < 36
  · rw [if_pos h1, if_pos h1]
  rw [if_neg h1] at h ⊢
  rw [if_neg h1]
  by_cases h2 : nm bs 9 1 ≠ 17
  · rw [if_pos h2, if_pos h2]
  rw [if_neg h2] at h ⊢
  rw [if_neg h2]
  by_cases h3 : nm bs 22 2 ≠ 4789
  · rw [if_pos h3, if_pos h3]
  · rw [if_neg h3] at h; simp at h
theorem vhd_ok {bs : List Int} (h : (vhd bs).1 = 0) : 36 ≤ bs.length ∧ (vhd bs) = (0, 0) ∧ vread bs = if (fread (bs.drop 36)).2.1 ≠ 0 then (vp0, (fread (bs.drop 36)).2.1, (fread (bs.drop 36)).2.2 + 36)
  else if vchk (vdec bs (fread (bs.drop 36)).1) = 0 ∧ venc (vdec bs (fread (bs.drop 36)).1) = bs then (vdec bs (fread (bs.drop 36)).1, 0, 0) else (vp0, 3, 0) := by
  unfold vhd at h ⊢
  by_cases h1 : bs.length < 36
  · rw [if_pos h1] at h; simp at h
  rw [if_neg h1] at h ⊢
  by_cases h2 : nm bs 9 1 ≠ 17
  · rw [if_pos h2] at h; simp at h
  rw [if_neg h2] at h ⊢
  by_cases h3 : nm bs 22 2 ≠ 4789
  · rw [if_pos h3] at h; simp at h
  · rw [if_neg h3]
    refine ⟨by omega, rfl, ?_⟩
    unfold vread
    rw [if_neg h1, if_neg h2, if_neg h3]
theorem vdec_take (bs : List Int) (f : FR) (q : VP) (hq : vdec (bs.take 36) fr0 = q) : (⟨q.a, q.b, q.t, q.n, q.v, q.m, f⟩ : VP) = vdec bs f := by
  have h : ∀ p m, p + m ≤ 36 → nm (bs.take 36) p m = nm bs p m := fun p m h => nm_head (n := 36) (by rw [List.take_take, Nat.min_self]) h
  rw [← hq]
  unfold vdec
  dsimp only
  rw [h _ _ (by decide), h _ _ (by decide), h _ _ (by decide), h _ _ (by decide), h _ _ (by decide), h _ _ (by decide)]

set_option maxHeartbeats 2000000 in
theorem vread_head (A : Option Addr) (c : Nat) (bs : List Int) (w : World) (hA : Arr w (.slice A bs.length c) bs) (hby : ∀ v ∈ bs, 0 ≤ v ∧ v ≤ 255) (hm : bs.length ≤ 100000) (hcap : bs.length ≤ c) (hf : (vhd bs).1 ≠ 0) :
    Calls Try.prog 10 #[.slice A bs.length c] w (VReads w bs) := by
  obtain ⟨n, hn⟩ : ∃ n, bs.length = n := ⟨_, rfl⟩
  obtain ⟨er, her⟩ : ∃ er, (vhd bs).1 = er := ⟨_, rfl⟩
  obtain ⟨i, hi⟩ : ∃ i, (vhd bs).2 = i := ⟨_, rfl⟩
  have HH : Hid (∀ W, Below w.heap.size w W → Calls Try.prog 23 #[.slice A n c] W fun e w' => e = .returned (.agg #[.int .i64 er, .int .i64 i]) ∧ Below W.heap.size W w') := Lib.hid (fun W hb => by
    have h := head_any _ bs W (hA.below hb) hby
    rw [her, hi, hn] at h
    exact h)
  have HF : Hid (vread bs = (vp0, er, i)) := Lib.hid (by rw [vread_hd hf, her, hi])
  rw [her] at hf
  have hne : (er != 0) = true := by simpa using hf
  rw [hn]
  clear hn her hi hA hby hf hm hcap
  obtain ⟨W2, hW2⟩ : ∃ W2, ((w.alloc (.cells #[.int .u32 0, .int .u32 0, .int .i64 0, .int .i64 0, .int .u32 0, .int .u32 0, .int .u64 0, .int .u64 0, .int .i64 0, .int .i64 0, .int .u64 0, .int .u32 0, .int .u64 0, .int .u32 0, .int .u32 0, .int .u32 0, .int .i64 0, .int .i64 0, .int .i64 0, .int .i64 0, .int .u64 0] 34)).alloc (.cells #[.int .i64 0, .int .i64 0] 37)) = W2 := ⟨_, rfl⟩
  have HW : Hid (VRW w vp0 0 0 W2) := Lib.hid (hW2 ▸ VRW.start w)
  go_enter Try.func10, Try.ntmps10
  go_wp2_with fail
  try rw [hW2]
  clear hW2
  refine (HH.out _ HW.out.lo).mono ?_
  rintro e w3 ⟨rfl, hb⟩
  have HV := Lib.hid (HW.out.below hb)
  clear hb HW
  have HW := HV
  clear HV
  go_upto_region 3 with fail
  obtain ⟨W4, hW4⟩ : ∃ W4, w3.alloc (.cells #[.int .i64 er, .int .i64 i] 37) = W4 := ⟨_, rfl⟩
  have HW4 : Hid (VRW w vp0 0 0 W4.drew) := Lib.hid (hW4 ▸ HW.out.below ((Below.refl _ w3).alloc (Nat.le_refl _) _).drew)
  have HF4 : Hid (Has W4.drew w3.heap.size 37 #[.int .i64 er, .int .i64 i]) := Lib.hid (hW4 ▸ Has.new w3 _ _)
  have HLt : Hid (w.heap.size + 1 < w3.heap.size) := Lib.hid HW.out.flt.lt
  try rw [hW4]
  clear hW4 HW
  have HS : Hid (∀ W : World, Has W w3.heap.size 37 #[.int .i64 er, .int .i64 i] → (W.cell? ⟨w3.heap.size, 0, none⟩ = some (.int .i64 er) ∧ W.cell? ⟨w3.heap.size, 1, none⟩ = some (.int .i64 i))) := Lib.hid (fun W h => ⟨h.cell 0, h.cell 1⟩)
  refine wp_region_held_drew (S := (fun w' => w'.cell? ⟨w3.heap.size, 0, none⟩ = some (.int .i64 er) ∧ w'.cell? ⟨w3.heap.size, 1, none⟩ = some (.int .i64 i))) (by kernel_rfl) (HS.out _ HF4.out) (fun hHeld => ?_)
  refine wpAnyH_take (i := 0) (oi := { dst := some 15, op := Go.Op.build 34 #[], type := 34, pos := "read.go:21", after := #[], guard := none }) (v := ?_) rfl (by kernel_rfl) (by kernel_rfl) (by kernel_rfl) (fun _ _ _ h => h) (Or.inl ⟨by rfl, ?_⟩) (by assumption) ?_
  rotate_left
  · intro wS hSw
    try dsimp only at hSw
    go_split_ands
    go_simp
    try with_reducible rfl
  try simp only [Act.put, List.setIfInBounds_toArray, List.set_cons_zero, List.set_cons_succ]
  refine wpAnyH_take (i := 1) (oi := { dst := some 16, op := Go.Op.load 37 (Go.Operand.tmp 4), type := 37, pos := "read.go:21", after := #[{ on := 2, ground := Go.Ground.gcOnly Go.Departure.lateStores }], guard := none }) (v := ?_) rfl (by kernel_rfl) (by kernel_rfl) (by kernel_rfl) (fun _ _ _ h => h) (Or.inl ⟨by rfl, ?_⟩) (by assumption) ?_
  rotate_left
  · intro wS hSw
    try dsimp only at hSw
    go_split_ands
    go_simp
    try with_reducible rfl
  try simp only [Act.put, List.setIfInBounds_toArray, List.set_cons_zero, List.set_cons_succ]
  refine wpAnyH_ready (rs := [2]) (by kernel_rfl) (by simp) ?_
  refine AllReadyH.cons (o := { dst := none, op := Go.Op.store 34 (Go.Operand.tmp 2) (Go.Operand.tmp 15), type := 0, pos := "read.go:21", after := #[{ on := 0, ground := Go.Ground.data }, { on := 0, ground := Go.Ground.phase }, { on := 1, ground := Go.Ground.textOnly Go.Departure.lateStores }], guard := none }) rfl (fun K hK => ?_) AllReadyH.nil
  refine stepStoreRow rfl 34 (.tmp 2) (.tmp 15) rfl w.heap.size vp0.cs rfl rfl 34 vp0.cs HW4.out.zer (VP.fit vp0) rfl (VP.one vp0) ?_
  have HW5 := Lib.hid (HW4.out.row vp0)
  have HF5 : Hid (Has (W4.drew.setRow w.heap.size vp0.cs) w3.heap.size 37 #[.int .i64 er, .int .i64 i]) := Lib.hid (HF4.out.grown (Only.row _) (by intro h9; injection h9 with h9; have := HLt.out; omega))
  refine hK.out _ _ (HS.out _ HF5.out) (fun hHeld => ?_)
  clear hK K
  try simp only [Act.put, List.setIfInBounds_toArray, List.set_cons_zero, List.set_cons_succ]
  generalize W4.drew.setRow w.heap.size vp0.cs = W5 at *
  clear HW4 HF4
  refine wpAnyH_ready (rs := [3]) (by kernel_rfl) (by simp) ?_
  refine AllReadyH.cons (o := { dst := none, op := Go.Op.store 37 (Go.Operand.tmp 3) (Go.Operand.tmp 16), type := 0, pos := "read.go:21", after := #[{ on := 1, ground := Go.Ground.data }, { on := 2, ground := Go.Ground.chain }, { on := 0, ground := Go.Ground.phase }, { on := 1, ground := Go.Ground.phase }, { on := 2, ground := Go.Ground.phase }], guard := none }) rfl (fun K hK => ?_) AllReadyH.nil
  have q0 := HW5.out.flt.cell 0
  have q1 := HW5.out.flt.cell 1
  have p0 := HW5.out.flt.free 0
  have p1 := HW5.out.flt.free 1
  simp only [List.getElem?_toArray, List.getElem?_cons_zero, List.getElem?_cons_succ] at q0 q1
  go_simp
  refine hK.out _ _ (HS.out _ ?_) (fun hHeld => ?_)
  · exact (HF5.out.grown (only_set (only_refl _ (w.heap.size + 1)) (p := ⟨w.heap.size + 1, 0, none⟩) (.inl rfl) _) (by intro h9; injection h9 with h9; have := HLt.out; omega)).grown (only_set (only_refl _ (w.heap.size + 1)) (p := ⟨w.heap.size + 1, 1, none⟩) (.inl rfl) _) (by intro h9; injection h9 with h9; have := HLt.out; omega)
  clear hK K
  try simp only [Act.put, List.setIfInBounds_toArray, List.set_cons_zero, List.set_cons_succ]
  refine wpAnyH_done (by kernel_rfl) ?_ _
  have HE := Lib.hid (HW5.out.set er i)
  go_wp2_with fail
  exact bodyPost_ret (v := .tuple #[.agg vp0.cs, .agg #[.int .i64 er, .int .i64 i]]) (vread_results _ rfl rfl HE.out) rfl ⟨by rw [HF.out], HE.out.lo⟩

set_option maxHeartbeats 2000000 in
theorem vread_inner (A : Option Addr) (c : Nat) (bs : List Int) (w : World) (hA : Arr w (.slice A bs.length c) bs) (hby : ∀ v ∈ bs, 0 ≤ v ∧ v ≤ 255) (hm : bs.length ≤ 100000) (hcap : bs.length ≤ c) (hf : (vhd bs).1 = 0) (h0 : (fread (bs.drop 36)).2.1 ≠ 0) :
    Calls Try.prog 10 #[.slice A bs.length c] w (VReads w bs) := by
  obtain ⟨h36, hh0, hvr⟩ := vhd_ok hf
  obtain ⟨n, hn⟩ : ∃ n, bs.length = n := ⟨_, rfl⟩
  have HH : Hid (∀ W, Below w.heap.size w W → Calls Try.prog 23 #[.slice A n c] W fun e w' => e = .returned (.agg #[.int .i64 0, .int .i64 0]) ∧ Below W.heap.size W w') := Lib.hid (fun W hb => by
    have h := head_any _ bs W (hA.below hb) hby
    rw [hh0, hn] at h
    exact h)
  obtain ⟨f, hfr⟩ : ∃ f, (fread (bs.drop 36)).1 = f := ⟨_, rfl⟩
  obtain ⟨er, her⟩ : ∃ er, (vin bs).2.1 = er := ⟨_, rfl⟩
  obtain ⟨i, hi⟩ : ∃ i, (vin bs).2.2 = i := ⟨_, rfl⟩
  have HI : Hid (∀ W, Below w.heap.size w W → Calls Try.prog 24 #[.slice A n c] W fun e w' => e = .returned (.tuple #[.agg #[.int .u64 f.s, .int .u64 f.d, .int .i64 f.k, .int .i64 f.op, .int .u64 f.sm, .int .u32 f.si, .int .u64 f.tm, .int .u32 f.ti, .int .u32 f.hs, .int .u32 f.hd, .int .i64 f.tl, .int .i64 f.pr, .int .i64 f.sp, .int .i64 f.dp, .int .u64 f.da], .agg #[.int .i64 er, .int .i64 i]]) ∧ Below W.heap.size W w') := Lib.hid (fun W hb => by
    have h := inner_any A c bs W (hA.below hb) hby h36 hm hcap
    unfold InTo at h
    rw [her, hi, hn] at h
    rw [show (vin bs).1 = f from hfr] at h
    exact h)
  have HF : Hid (vread bs = (vp0, er, i)) := Lib.hid (by
    rw [hvr, if_pos h0, ← her, ← hi]
    unfold vin
    rw [if_neg h0])
  have hne : (er != 0) = true := by
    have : er ≠ 0 := by rw [← her]; exact h0
    simpa using this
  rw [hn]
  clear hn her hi hA hby hf hm hcap h36 hh0 hvr hfr h0
  obtain ⟨W2, hW2⟩ : ∃ W2, ((w.alloc (.cells #[.int .u32 0, .int .u32 0, .int .i64 0, .int .i64 0, .int .u32 0, .int .u32 0, .int .u64 0, .int .u64 0, .int .i64 0, .int .i64 0, .int .u64 0, .int .u32 0, .int .u64 0, .int .u32 0, .int .u32 0, .int .u32 0, .int .i64 0, .int .i64 0, .int .i64 0, .int .i64 0, .int .u64 0] 34)).alloc (.cells #[.int .i64 0, .int .i64 0] 37)) = W2 := ⟨_, rfl⟩
  have HW : Hid (VRW w vp0 0 0 W2) := Lib.hid (hW2 ▸ VRW.start w)
  go_enter Try.func10, Try.ntmps10
  go_wp2_with fail
  try rw [hW2]
  clear hW2
  refine (HH.out _ HW.out.lo).mono ?_
  rintro e w3 ⟨rfl, hb⟩
  have HV := Lib.hid (HW.out.below hb)
  clear hb HW
  have HW := HV
  clear HV
  go_upto_region 2 with fail
  obtain ⟨W4, hW4⟩ : ∃ W4, w3.alloc (.cells #[.int .i64 0, .int .i64 0] 37) = W4 := ⟨_, rfl⟩
  try rw [hW4]
  have HW4 : Hid (VRW w vp0 0 0 W4) := Lib.hid (hW4 ▸ HW.out.below ((Below.refl _ w3).alloc (Nat.le_refl _) _))
  have HF4 : Hid (Has W4 w3.heap.size 37 #[.int .i64 0, .int .i64 0]) := Lib.hid (hW4 ▸ Has.new w3 _ _)
  clear hW4 HW
  have HW := HW4
  have c0 := HF4.out.cell 0
  simp only [List.getElem?_toArray, List.getElem?_cons_zero, List.getElem?_cons_succ] at c0
  clear HW4 HF4
  go_wp2_with fail
  refine (HI.out _ HW.out.lo).mono ?_
  rintro e w5 ⟨rfl, hb⟩
  have HW5 := Lib.hid (HW.out.below hb)
  clear hb c0 HW
  go_upto_region 6 with fail
  obtain ⟨W4, hW4⟩ : ∃ W4, (w5.alloc (.cells #[.int .u64 f.s, .int .u64 f.d, .int .i64 f.k, .int .i64 f.op, .int .u64 f.sm, .int .u32 f.si, .int .u64 f.tm, .int .u32 f.ti, .int .u32 f.hs, .int .u32 f.hd, .int .i64 f.tl, .int .i64 f.pr, .int .i64 f.sp, .int .i64 f.dp, .int .u64 f.da] 32)).alloc (.cells #[.int .i64 er, .int .i64 i] 37) = W4 := ⟨_, rfl⟩
  have HW4 : Hid (VRW w vp0 0 0 W4.drew) := Lib.hid (hW4 ▸ HW5.out.below (((Below.refl _ w5).alloc (Nat.le_refl _) _).alloc (by simp) _).drew)
  have HF4 : Hid (Has W4.drew (w5.heap.size + 1) 37 #[.int .i64 er, .int .i64 i]) := Lib.hid (hW4 ▸ by
    have h1 := Has.new (w5.alloc (.cells #[.int .u64 f.s, .int .u64 f.d, .int .i64 f.k, .int .i64 f.op, .int .u64 f.sm, .int .u32 f.si, .int .u64 f.tm, .int .u32 f.ti, .int .u32 f.hs, .int .u32 f.hd, .int .i64 f.tl, .int .i64 f.pr, .int .i64 f.sp, .int .i64 f.dp, .int .u64 f.da] 32)) 37 #[.int .i64 er, .int .i64 i]
    rw [World.size_alloc] at h1
    exact h1)
  have HLt : Hid (w.heap.size + 1 < w5.heap.size + 1) := Lib.hid (by have := HW5.out.flt.lt; omega)
  try rw [hW4]
  clear hW4 HW5
  have HS : Hid (∀ W : World, Has W (w5.heap.size + 1) 37 #[.int .i64 er, .int .i64 i] → (W.cell? ⟨(w5.heap.size + 1), 0, none⟩ = some (.int .i64 er) ∧ W.cell? ⟨(w5.heap.size + 1), 1, none⟩ = some (.int .i64 i))) := Lib.hid (fun W h => ⟨h.cell 0, h.cell 1⟩)
  refine wp_region_held_drew (S := (fun w' => w'.cell? ⟨(w5.heap.size + 1), 0, none⟩ = some (.int .i64 er) ∧ w'.cell? ⟨(w5.heap.size + 1), 1, none⟩ = some (.int .i64 i))) (by kernel_rfl) (HS.out _ HF4.out) (fun hHeld => ?_)
  refine wpAnyH_take (i := 0) (oi := { dst := some 25, op := Go.Op.build 34 #[], type := 34, pos := "read.go:25", after := #[], guard := none }) (v := ?_) rfl (by kernel_rfl) (by kernel_rfl) (by kernel_rfl) (fun _ _ _ h => h) (Or.inl ⟨by rfl, ?_⟩) (by assumption) ?_
  rotate_left
  · intro wS hSw
    try dsimp only at hSw
    go_split_ands
    go_simp
    try with_reducible rfl
  try simp only [Act.put, List.setIfInBounds_toArray, List.set_cons_zero, List.set_cons_succ]
  refine wpAnyH_take (i := 1) (oi := { dst := some 26, op := Go.Op.load 37 (Go.Operand.tmp 6), type := 37, pos := "read.go:25", after := #[{ on := 2, ground := Go.Ground.gcOnly Go.Departure.lateStores }], guard := none }) (v := ?_) rfl (by kernel_rfl) (by kernel_rfl) (by kernel_rfl) (fun _ _ _ h => h) (Or.inl ⟨by rfl, ?_⟩) (by assumption) ?_
  rotate_left
  · intro wS hSw
    try dsimp only at hSw
    go_split_ands
    go_simp
    try with_reducible rfl
  try simp only [Act.put, List.setIfInBounds_toArray, List.set_cons_zero, List.set_cons_succ]
  refine wpAnyH_ready (rs := [2]) (by kernel_rfl) (by simp) ?_
  refine AllReadyH.cons (o := { dst := none, op := Go.Op.store 34 (Go.Operand.tmp 2) (Go.Operand.tmp 25), type := 0, pos := "read.go:25", after := #[{ on := 0, ground := Go.Ground.data }, { on := 0, ground := Go.Ground.phase }, { on := 1, ground := Go.Ground.textOnly Go.Departure.lateStores }], guard := none }) rfl (fun K hK => ?_) AllReadyH.nil
  refine stepStoreRow rfl 34 (.tmp 2) (.tmp 25) rfl w.heap.size vp0.cs rfl rfl 34 vp0.cs HW4.out.zer (VP.fit vp0) rfl (VP.one vp0) ?_
  have HW5 := Lib.hid (HW4.out.row vp0)
  have HF5 : Hid (Has (W4.drew.setRow w.heap.size vp0.cs) (w5.heap.size + 1) 37 #[.int .i64 er, .int .i64 i]) := Lib.hid (HF4.out.grown (Only.row _) (by intro h9; injection h9 with h9; have := HLt.out; omega))
  refine hK.out _ _ (HS.out _ HF5.out) (fun hHeld => ?_)
  clear hK K
  try simp only [Act.put, List.setIfInBounds_toArray, List.set_cons_zero, List.set_cons_succ]
  generalize W4.drew.setRow w.heap.size vp0.cs = W5 at *
  clear HW4 HF4
  refine wpAnyH_ready (rs := [3]) (by kernel_rfl) (by simp) ?_
  refine AllReadyH.cons (o := { dst := none, op := Go.Op.store 37 (Go.Operand.tmp 3) (Go.Operand.tmp 26), type := 0, pos := "read.go:25", after := #[{ on := 1, ground := Go.Ground.data }, { on := 2, ground := Go.Ground.chain }, { on := 0, ground := Go.Ground.phase }, { on := 1, ground := Go.Ground.phase }, { on := 2, ground := Go.Ground.phase }], guard := none }) rfl (fun K hK => ?_) AllReadyH.nil
  have q0 := HW5.out.flt.cell 0
  have q1 := HW5.out.flt.cell 1
  have p0 := HW5.out.flt.free 0
  have p1 := HW5.out.flt.free 1
  simp only [List.getElem?_toArray, List.getElem?_cons_zero, List.getElem?_cons_succ] at q0 q1
  go_simp
  refine hK.out _ _ (HS.out _ ?_) (fun hHeld => ?_)
  · exact (HF5.out.grown (only_set (only_refl _ (w.heap.size + 1)) (p := ⟨w.heap.size + 1, 0, none⟩) (.inl rfl) _) (by intro h9; injection h9 with h9; have := HLt.out; omega)).grown (only_set (only_refl _ (w.heap.size + 1)) (p := ⟨w.heap.size + 1, 1, none⟩) (.inl rfl) _) (by intro h9; injection h9 with h9; have := HLt.out; omega)
  clear hK K
  try simp only [Act.put, List.setIfInBounds_toArray, List.set_cons_zero, List.set_cons_succ]
  refine wpAnyH_done (by kernel_rfl) ?_ _
  have HE := Lib.hid (HW5.out.set er i)
  go_wp2_with fail
  exact bodyPost_ret (v := .tuple #[.agg vp0.cs, .agg #[.int .i64 er, .int .i64 i]]) (vread_results _ rfl rfl HE.out) rfl ⟨by rw [HF.out], HE.out.lo⟩

set_option maxHeartbeats 2000000 in
theorem vread_bad1 (A : Option Addr) (c : Nat) (bs : List Int) (w : World) (hA : Arr w (.slice A bs.length c) bs) (hby : ∀ v ∈ bs, 0 ≤ v ∧ v ≤ 255) (hm : bs.length ≤ 100000) (hcap : bs.length ≤ c) (hf : (vhd bs).1 = 0) (h0 : (fread (bs.drop 36)).2.1 = 0) (hc : vchk (vdec bs (fread (bs.drop 36)).1) ≠ 0) :
    Calls Try.prog 10 #[.slice A bs.length c] w (VReads w bs) := by
  obtain ⟨h36, hh0, hvr⟩ := vhd_ok hf
  obtain ⟨n, hn⟩ : ∃ n, bs.length = n := ⟨_, rfl⟩
  have HH : Hid (∀ W, Below w.heap.size w W → Calls Try.prog 23 #[.slice A n c] W fun e w' => e = .returned (.agg #[.int .i64 0, .int .i64 0]) ∧ Below W.heap.size W w') := Lib.hid (fun W hb => by
    have h := head_any _ bs W (hA.below hb) hby
    rw [hh0, hn] at h
    exact h)
  obtain ⟨f, hfr⟩ : ∃ f, (fread (bs.drop 36)).1 = f := ⟨_, rfl⟩
  obtain ⟨er, her⟩ : ∃ er, (vin bs).2.1 = er := ⟨_, rfl⟩
  obtain ⟨i, hi⟩ : ∃ i, (vin bs).2.2 = i := ⟨_, rfl⟩
  have HI : Hid (∀ W, Below w.heap.size w W → Calls Try.prog 24 #[.slice A n c] W fun e w' => e = .returned (.tuple #[.agg #[.int .u64 f.s, .int .u64 f.d, .int .i64 f.k, .int .i64 f.op, .int .u64 f.sm, .int .u32 f.si, .int .u64 f.tm, .int .u32 f.ti, .int .u32 f.hs, .int .u32 f.hd, .int .i64 f.tl, .int .i64 f.pr, .int .i64 f.sp, .int .i64 f.dp, .int .u64 f.da], .agg #[.int .i64 er, .int .i64 i]]) ∧ Below W.heap.size W w') := Lib.hid (fun W hb => by
    have h := inner_any A c bs W (hA.below hb) hby h36 hm hcap
    unfold InTo at h
    rw [her, hi, hn] at h
    rw [show (vin bs).1 = f from hfr] at h
    exact h)
  obtain ⟨b, o, rfl, hs⟩ : ∃ b o, A = some ⟨b, o, none⟩ ∧ Sl w b o bs := by
    rcases hA with ⟨_, h⟩ | ⟨ad, c', h1, h2⟩
    · rw [h] at h36; simp at h36
    · injection h1 with h1 _ _
      subst h1
      obtain ⟨b, o, rfl, hs⟩ := h2.plain (by omega)
      exact ⟨b, o, rfl, hs⟩
  have HLen : Hid ((bs.take 36).length = 36) := Lib.hid (by rw [List.length_take]; omega)
  have HD : Hid (∀ W, Calls Try.prog 25 #[.agg (u8s (bs.take 36)).toArray] W fun e w' => e = .returned (.agg (vdec (bs.take 36) fr0).cs) ∧ Below W.heap.size W w') := Lib.hid (fun W => vdecode (bs.take 36) HLen.out (fun v hv => hby v (List.mem_of_mem_take hv)) W)
  have HRg0 : Hid (∀ W, Below w.heap.size w W → W.rangeAt b o (u8s (bs.take 36))) := Lib.hid (fun W hb j u hu => by
    have hj : j < (bs.take 36).length := by
      obtain ⟨hj, _⟩ := List.getElem?_eq_some_iff.1 hu
      simpa [u8s] using hj
    have hj2 : j < bs.length := by rw [List.length_take] at hj; omega
    rw [hb.cell (p := ⟨b, o + j, none⟩) (cell_block (hs j hj2)), hs j hj2, ← hu]
    simp only [u8s, List.getElem?_map]
    rw [List.getElem?_eq_getElem hj]
    simp [List.getElem_take])
  have HFt : Hid ((Try.prog.info? 59).map (·.size) = some (u8s (bs.take 36)).length) := Lib.hid (by rw [List.length_map, HLen.out]; exact fit36)
  have harr := arr36 b o c
  obtain ⟨g36, hg36⟩ : ∃ l, bs.take 36 = l := ⟨_, rfl⟩
  have hvt := vdec_take bs f
  rw [hg36] at HLen HD HRg0 HFt hvt
  have he : er = 0 := by rw [← her]; exact h0
  have hi2 : i = 0 := by rw [← hi]; unfold vin; rw [if_pos h0]; exact (fread_ok h0).2.2.2.2.1
  subst he hi2
  obtain ⟨q, hq⟩ : ∃ q, vdec g36 fr0 = q := ⟨_, rfl⟩
  rw [hq] at HD
  obtain ⟨y, hy⟩ : ∃ y, vdec bs f = y := ⟨_, rfl⟩
  have HQY : Hid ((⟨q.a, q.b, q.t, q.n, q.v, q.m, f⟩ : VP) = y) := Lib.hid (by rw [hvt q hq, hy])
  have hyt : y.ty := by rw [← hy, ← hfr]; exact vdec_ty hby (fread_ty (fun v hv => hby v (List.mem_of_mem_drop hv)) h0)
  rw [hfr, hy] at hvr
  rw [if_neg (by simpa using h0)] at hvr
  rw [hfr, hy] at hc
  obtain ⟨ec, hec⟩ : ∃ ec, vchk y = ec := ⟨_, rfl⟩
  have HY : Hid (∀ W : World, Calls Try.prog 11 #[.agg y.cs] W fun e w' => e = .returned (.tuple #[.slice none 0 0, .int .i64 ec]) ∧ Below W.heap.size W w') := Lib.hid (fun W => hec ▸ vbytes_no y hyt hc W)
  have HF : Hid (vread bs = (vp0, 3, 0)) := Lib.hid (by rw [hvr, if_neg (fun h => hc h.1)])
  have hne : (ec != 0) = true := by rw [hec] at hc; simpa using hc
  have e2 : (36 : Int) ≤ (c : Int) := by omega
  clear hec hA
  rw [hn]
  clear hn her hi hby hf hm hcap h36 hh0 hvr hfr h0 hs hq hy hyt hc hg36 hvt
  obtain ⟨W2, hW2⟩ : ∃ W2, ((w.alloc (.cells #[.int .u32 0, .int .u32 0, .int .i64 0, .int .i64 0, .int .u32 0, .int .u32 0, .int .u64 0, .int .u64 0, .int .i64 0, .int .i64 0, .int .u64 0, .int .u32 0, .int .u64 0, .int .u32 0, .int .u32 0, .int .u32 0, .int .i64 0, .int .i64 0, .int .i64 0, .int .i64 0, .int .u64 0] 34)).alloc (.cells #[.int .i64 0, .int .i64 0] 37)) = W2 := ⟨_, rfl⟩
  have HW : Hid (VRW w vp0 0 0 W2) := Lib.hid (hW2 ▸ VRW.start w)
  go_enter Try.func10, Try.ntmps10
  go_wp2_with fail
  try rw [hW2]
  clear hW2
  refine (HH.out _ HW.out.lo).mono ?_
  rintro e w3 ⟨rfl, hb⟩
  have HV := Lib.hid (HW.out.below hb)
  clear hb HW
  have HW := HV
  clear HV
  go_upto_region 2 with fail
  obtain ⟨W4, hW4⟩ : ∃ W4, w3.alloc (.cells #[.int .i64 0, .int .i64 0] 37) = W4 := ⟨_, rfl⟩
  try rw [hW4]
  have HW4 : Hid (VRW w vp0 0 0 W4) := Lib.hid (hW4 ▸ HW.out.below ((Below.refl _ w3).alloc (Nat.le_refl _) _))
  have HF4 : Hid (Has W4 w3.heap.size 37 #[.int .i64 0, .int .i64 0]) := Lib.hid (hW4 ▸ Has.new w3 _ _)
  clear hW4 HW
  have HW := HW4
  have c0 := HF4.out.cell 0
  simp only [List.getElem?_toArray, List.getElem?_cons_zero, List.getElem?_cons_succ] at c0
  clear HW4 HF4
  go_wp2_with fail
  refine (HI.out _ HW.out.lo).mono ?_
  rintro e w5 ⟨rfl, hb⟩
  have HW5 := Lib.hid (HW.out.below hb)
  clear hb c0 HW
  have HB5 : Hid (Has ((w5.alloc (.cells #[.int .u64 f.s, .int .u64 f.d, .int .i64 f.k, .int .i64 f.op, .int .u64 f.sm, .int .u32 f.si, .int .u64 f.tm, .int .u32 f.ti, .int .u32 f.hs, .int .u32 f.hd, .int .i64 f.tl, .int .i64 f.pr, .int .i64 f.sp, .int .i64 f.dp, .int .u64 f.da] 32)).alloc (.cells #[.int .i64 0, .int .i64 0] 37)) w5.heap.size 32 f.cs) := Lib.hid ((Has.new w5 _ _).below ((Below.refl _ _).alloc (Nat.le_refl _) _))
  have HW6 : Hid (VRW w vp0 0 0 ((w5.alloc (.cells #[.int .u64 f.s, .int .u64 f.d, .int .i64 f.k, .int .i64 f.op, .int .u64 f.sm, .int .u32 f.si, .int .u64 f.tm, .int .u32 f.ti, .int .u32 f.hs, .int .u32 f.hd, .int .i64 f.tl, .int .i64 f.pr, .int .i64 f.sp, .int .i64 f.dp, .int .u64 f.da] 32)).alloc (.cells #[.int .i64 0, .int .i64 0] 37))) := Lib.hid (HW5.out.below (((Below.refl _ w5).alloc (Nat.le_refl _) _).alloc (by simp) _))
  have HLt : Hid (w.heap.size + 1 < w5.heap.size) := Lib.hid HW5.out.flt.lt
  go_upto_region 7 with fail
  obtain ⟨W6, hW6⟩ : ∃ W6, ((w5.alloc (.cells #[.int .u64 f.s, .int .u64 f.d, .int .i64 f.k, .int .i64 f.op, .int .u64 f.sm, .int .u32 f.si, .int .u64 f.tm, .int .u32 f.ti, .int .u32 f.hs, .int .u32 f.hd, .int .i64 f.tl, .int .i64 f.pr, .int .i64 f.sp, .int .i64 f.dp, .int .u64 f.da] 32)).alloc (.cells #[.int .i64 0, .int .i64 0] 37)) = W6 := ⟨_, rfl⟩
  rw [hW6] at HB5 HW6
  have HRg := Lib.hid (HRg0.out W6 HW6.out.lo)
  clear HW5
  try rw [hW6]
  clear hW6
  go_wp2_with (refine wpList_load_mid rfl 59 (.tmp 29) rfl b o rfl (u8s g36) _ HRg.out Try.underlying59 rfl HFt.out ?_)
  refine (HD.out _).mono ?_
  rintro e w7 ⟨rfl, hb⟩
  have HB7 := Lib.hid (HB5.out.below hb)
  have HW7 := Lib.hid (HW6.out.below hb)
  have HL7 : Hid (w5.heap.size < w7.heap.size) := Lib.hid HB7.out.lt
  clear hb HB5 HW6 HRg HRg0 HFt harr
  have hbn : Below w7.heap.size w7 (w7.alloc (.cells #[.int .u32 0, .int .u32 0, .int .i64 0, .int .i64 0, .int .u32 0, .int .u32 0, .int .u64 0, .int .u64 0, .int .i64 0, .int .i64 0, .int .u64 0, .int .u32 0, .int .u64 0, .int .u32 0, .int .u32 0, .int .u32 0, .int .i64 0, .int .i64 0, .int .i64 0, .int .i64 0, .int .u64 0] 34)) := (Below.refl _ w7).alloc (Nat.le_refl _) _
  have HN : Hid (Has (w7.alloc (.cells #[.int .u32 0, .int .u32 0, .int .i64 0, .int .i64 0, .int .u32 0, .int .u32 0, .int .u64 0, .int .u64 0, .int .i64 0, .int .i64 0, .int .u64 0, .int .u32 0, .int .u64 0, .int .u32 0, .int .u32 0, .int .u32 0, .int .i64 0, .int .i64 0, .int .i64 0, .int .i64 0, .int .u64 0] 34)) w7.heap.size 34 vp0.cs) := Lib.hid (Has.new _ _ _)
  have HB8 := Lib.hid (HB7.out.below hbn)
  have HW8 := Lib.hid (HW7.out.below hbn)
  clear hbn HB7 HW7
  go_upto_region 8 with (refine wpList_store_row rfl 34 (.tmp 7) (.tmp 31) rfl w7.heap.size q.cs rfl rfl 34 vp0.cs HN.out (VP.fit q) rfl (VP.one q) ?_; have HN9 : Hid (Has ((w7.alloc (.cells #[.int .u32 0, .int .u32 0, .int .i64 0, .int .i64 0, .int .u32 0, .int .u32 0, .int .u64 0, .int .u64 0, .int .i64 0, .int .i64 0, .int .u64 0, .int .u32 0, .int .u64 0, .int .u32 0, .int .u32 0, .int .u32 0, .int .i64 0, .int .i64 0, .int .i64 0, .int .i64 0, .int .u64 0] 34)).setRow w7.heap.size q.cs) w7.heap.size 34 q.cs) := Lib.hid (setRow_heap _ _ _ _ _ HN.out); have HB9 : Hid (Has ((w7.alloc (.cells #[.int .u32 0, .int .u32 0, .int .i64 0, .int .i64 0, .int .u32 0, .int .u32 0, .int .u64 0, .int .u64 0, .int .i64 0, .int .i64 0, .int .u64 0, .int .u32 0, .int .u64 0, .int .u32 0, .int .u32 0, .int .u32 0, .int .i64 0, .int .i64 0, .int .i64 0, .int .i64 0, .int .u64 0] 34)).setRow w7.heap.size q.cs) w5.heap.size 32 f.cs) := Lib.hid (HB8.out.grown (Only.row _) (by intro h9; injection h9 with h9; have := HL7.out; omega)); have HW9 : Hid (VRW w vp0 0 0 ((w7.alloc (.cells #[.int .u32 0, .int .u32 0, .int .i64 0, .int .i64 0, .int .u32 0, .int .u32 0, .int .u64 0, .int .u64 0, .int .i64 0, .int .i64 0, .int .u64 0, .int .u32 0, .int .u64 0, .int .u32 0, .int .u32 0, .int .u32 0, .int .i64 0, .int .i64 0, .int .i64 0, .int .i64 0, .int .u64 0] 34)).setRow w7.heap.size q.cs)) := Lib.hid (HW8.out.only (Only.row _) (by have := HL7.out; have := HLt.out; omega)); generalize (w7.alloc (.cells #[.int .u32 0, .int .u32 0, .int .i64 0, .int .i64 0, .int .u32 0, .int .u32 0, .int .u64 0, .int .u64 0, .int .i64 0, .int .i64 0, .int .u64 0, .int .u32 0, .int .u64 0, .int .u32 0, .int .u32 0, .int .u32 0, .int .i64 0, .int .i64 0, .int .i64 0, .int .i64 0, .int .u64 0] 34)).setRow w7.heap.size q.cs = W9 at HN9 HB9 HW9 ⊢; clear HN HB8 HW8)
  go_upto_region 9 with (first
    | (refine wpList_load_row rfl 32 (.tmp 5) rfl w5.heap.size rfl 32 f.cs (0, 0) _ HB9.out Try.underlying32 rfl f.fit ?_)
    | (refine wpList_store_mid rfl 32 (.tmp 33) (.tmp 32) rfl w7.heap.size 6 f.cs rfl rfl (HN9.out.vthere 6 15 (by simp [VP.size])) (FR.fit f) (FR.one f) ?_; have HN10 : Hid (Has (W9.setCells w7.heap.size 6 f.cs.toList) w7.heap.size 34 y.cs) := Lib.hid (by have h := Has.vsets f.cs.toList 6 _ _ HN9.out; rw [vsets_cs, HQY.out] at h; exact h); have HW10 : Hid (VRW w vp0 0 0 (W9.setCells w7.heap.size 6 f.cs.toList)) := Lib.hid (HW9.out.only (Only.vsets _ _ _ (only_refl _ _)) (by have := HL7.out; have := HLt.out; omega)); generalize W9.setCells w7.heap.size 6 f.cs.toList = W10 at HN10 HW10 ⊢; clear HN9 HB9 HW9))
  go_wp2_with (first | (refine wpList_load_row rfl 34 (.tmp 7) rfl w7.heap.size rfl 34 y.cs (0, 0) _ HN10.out Try.underlying34 rfl y.fit ?_))
  refine (HY.out _).mono ?_
  rintro e w12 ⟨rfl, hb⟩
  have HW12 := Lib.hid (HW10.out.below hb)
  clear hb HN10 HW10
  go_wp2_with (first | (refine wpList_store_row rfl 34 (.tmp 2) (.tmp 47) rfl w.heap.size vp0.cs rfl rfl 34 vp0.cs HW12.out.zer (VP.fit vp0) rfl (VP.one vp0) ?_; have HW13 := Lib.hid (HW12.out.row vp0); generalize w12.setRow w.heap.size vp0.cs = W13 at HW13 ⊢; have q0 := HW13.out.flt.cell 0; have q1 := HW13.out.flt.cell 1; have p0 := HW13.out.flt.free 0; have p1 := HW13.out.flt.free 1; simp only [List.getElem?_toArray, List.getElem?_cons_zero, List.getElem?_cons_succ] at q0 q1))
  have HE := Lib.hid (HW13.out.set 3 0)
  exact bodyPost_ret (v := .tuple #[.agg vp0.cs, .agg #[.int .i64 3, .int .i64 0]]) (vread_results _ rfl rfl HE.out) rfl ⟨by rw [HF.out], HE.out.lo⟩

set_option maxHeartbeats 2000000 in
theorem vread_bad2 (A : Option Addr) (c : Nat) (bs : List Int) (w : World) (hA : Arr w (.slice A bs.length c) bs) (hby : ∀ v ∈ bs, 0 ≤ v ∧ v ≤ 255) (hm : bs.length ≤ 100000) (hcap : bs.length ≤ c) (hf : (vhd bs).1 = 0) (h0 : (fread (bs.drop 36)).2.1 = 0) (hc : vchk (vdec bs (fread (bs.drop 36)).1) = 0) (hz : venc (vdec bs (fread (bs.drop 36)).1) ≠ bs) :
    Calls Try.prog 10 #[.slice A bs.length c] w (VReads w bs) := by
  obtain ⟨h36, hh0, hvr⟩ := vhd_ok hf
  obtain ⟨n, hn⟩ : ∃ n, bs.length = n := ⟨_, rfl⟩
  have HH : Hid (∀ W, Below w.heap.size w W → Calls Try.prog 23 #[.slice A n c] W fun e w' => e = .returned (.agg #[.int .i64 0, .int .i64 0]) ∧ Below W.heap.size W w') := Lib.hid (fun W hb => by
    have h := head_any _ bs W (hA.below hb) hby
    rw [hh0, hn] at h
    exact h)
  obtain ⟨f, hfr⟩ : ∃ f, (fread (bs.drop 36)).1 = f := ⟨_, rfl⟩
  obtain ⟨er, her⟩ : ∃ er, (vin bs).2.1 = er := ⟨_, rfl⟩
  obtain ⟨i, hi⟩ : ∃ i, (vin bs).2.2 = i := ⟨_, rfl⟩
  have HI : Hid (∀ W, Below w.heap.size w W → Calls Try.prog 24 #[.slice A n c] W fun e w' => e = .returned (.tuple #[.agg #[.int .u64 f.s, .int .u64 f.d, .int .i64 f.k, .int .i64 f.op, .int .u64 f.sm, .int .u32 f.si, .int .u64 f.tm, .int .u32 f.ti, .int .u32 f.hs, .int .u32 f.hd, .int .i64 f.tl, .int .i64 f.pr, .int .i64 f.sp, .int .i64 f.dp, .int .u64 f.da], .agg #[.int .i64 er, .int .i64 i]]) ∧ Below W.heap.size W w') := Lib.hid (fun W hb => by
    have h := inner_any A c bs W (hA.below hb) hby h36 hm hcap
    unfold InTo at h
    rw [her, hi, hn] at h
    rw [show (vin bs).1 = f from hfr] at h
    exact h)
  obtain ⟨b, o, rfl, hs⟩ : ∃ b o, A = some ⟨b, o, none⟩ ∧ Sl w b o bs := by
    rcases hA with ⟨_, h⟩ | ⟨ad, c', h1, h2⟩
    · rw [h] at h36; simp at h36
    · injection h1 with h1 _ _
      subst h1
      obtain ⟨b, o, rfl, hs⟩ := h2.plain (by omega)
      exact ⟨b, o, rfl, hs⟩
  have HLen : Hid ((bs.take 36).length = 36) := Lib.hid (by rw [List.length_take]; omega)
  have HD : Hid (∀ W, Calls Try.prog 25 #[.agg (u8s (bs.take 36)).toArray] W fun e w' => e = .returned (.agg (vdec (bs.take 36) fr0).cs) ∧ Below W.heap.size W w') := Lib.hid (fun W => vdecode (bs.take 36) HLen.out (fun v hv => hby v (List.mem_of_mem_take hv)) W)
  have HRg0 : Hid (∀ W, Below w.heap.size w W → W.rangeAt b o (u8s (bs.take 36))) := Lib.hid (fun W hb j u hu => by
    have hj : j < (bs.take 36).length := by
      obtain ⟨hj, _⟩ := List.getElem?_eq_some_iff.1 hu
      simpa [u8s] using hj
    have hj2 : j < bs.length := by rw [List.length_take] at hj; omega
    rw [hb.cell (p := ⟨b, o + j, none⟩) (cell_block (hs j hj2)), hs j hj2, ← hu]
    simp only [u8s, List.getElem?_map]
    rw [List.getElem?_eq_getElem hj]
    simp [List.getElem_take])
  have HFt : Hid ((Try.prog.info? 59).map (·.size) = some (u8s (bs.take 36)).length) := Lib.hid (by rw [List.length_map, HLen.out]; exact fit36)
  have harr := arr36 b o c
  obtain ⟨g36, hg36⟩ : ∃ l, bs.take 36 = l := ⟨_, rfl⟩
  have hvt := vdec_take bs f
  rw [hg36] at HLen HD HRg0 HFt hvt
  have he : er = 0 := by rw [← her]; exact h0
  have hi2 : i = 0 := by rw [← hi]; unfold vin; rw [if_pos h0]; exact (fread_ok h0).2.2.2.2.1
  subst he hi2
  obtain ⟨q, hq⟩ : ∃ q, vdec g36 fr0 = q := ⟨_, rfl⟩
  rw [hq] at HD
  obtain ⟨y, hy⟩ : ∃ y, vdec bs f = y := ⟨_, rfl⟩
  have HQY : Hid ((⟨q.a, q.b, q.t, q.n, q.v, q.m, f⟩ : VP) = y) := Lib.hid (by rw [hvt q hq, hy])
  have hyt : y.ty := by rw [← hy, ← hfr]; exact vdec_ty hby (fread_ty (fun v hv => hby v (List.mem_of_mem_drop hv)) h0)
  rw [hfr, hy] at hvr
  rw [if_neg (by simpa using h0)] at hvr
  rw [hfr, hy] at hc
  obtain ⟨m, hm7⟩ : ∃ m, (venc y).length = m := ⟨_, rfl⟩
  have HY : Hid (∀ W : World, Calls Try.prog 11 #[.agg y.cs] W fun e w' => ∃ b c, e = .returned (.tuple #[.slice (some ⟨b, 0, none⟩) m c, .int .i64 0]) ∧ Row w' b c (venc y) ∧ W.heap.size ≤ b ∧ Below W.heap.size W w') := Lib.hid (fun W => hm7 ▸ vbytes_yes y hyt hc W)
  have HM := Lib.hid hm7
  have HA : Hid (Arr w (.slice (some ⟨b, o, none⟩) n c) bs) := Lib.hid (hn ▸ hA)
  have HPy : Hid (0 < (venc y).length) := Lib.hid (by rw [venc_len]; omega)
  have HPos : Hid (0 < bs.length) := Lib.hid (by omega)
  have HBy := Lib.hid hby
  have e2 : (36 : Int) ≤ (c : Int) := by omega
  clear hm7 hA
  rw [hfr, hy] at hz
  have HQ := Lib.hid hz
  have HF : Hid (vread bs = (vp0, 3, 0)) := Lib.hid (by rw [hvr, if_neg (fun h => hz h.2)])
  clear hz
  rw [hn]
  clear hn her hi hby hf hm hcap h36 hh0 hvr hfr h0 hs hq hy hyt hc hg36 hvt
  obtain ⟨W2, hW2⟩ : ∃ W2, ((w.alloc (.cells #[.int .u32 0, .int .u32 0, .int .i64 0, .int .i64 0, .int .u32 0, .int .u32 0, .int .u64 0, .int .u64 0, .int .i64 0, .int .i64 0, .int .u64 0, .int .u32 0, .int .u64 0, .int .u32 0, .int .u32 0, .int .u32 0, .int .i64 0, .int .i64 0, .int .i64 0, .int .i64 0, .int .u64 0] 34)).alloc (.cells #[.int .i64 0, .int .i64 0] 37)) = W2 := ⟨_, rfl⟩
  have HW : Hid (VRW w vp0 0 0 W2) := Lib.hid (hW2 ▸ VRW.start w)
  go_enter Try.func10, Try.ntmps10
  go_wp2_with fail
  try rw [hW2]
  clear hW2
  refine (HH.out _ HW.out.lo).mono ?_
  rintro e w3 ⟨rfl, hb⟩
  have HV := Lib.hid (HW.out.below hb)
  clear hb HW
  have HW := HV
  clear HV
  go_upto_region 2 with fail
  obtain ⟨W4, hW4⟩ : ∃ W4, w3.alloc (.cells #[.int .i64 0, .int .i64 0] 37) = W4 := ⟨_, rfl⟩
  try rw [hW4]
  have HW4 : Hid (VRW w vp0 0 0 W4) := Lib.hid (hW4 ▸ HW.out.below ((Below.refl _ w3).alloc (Nat.le_refl _) _))
  have HF4 : Hid (Has W4 w3.heap.size 37 #[.int .i64 0, .int .i64 0]) := Lib.hid (hW4 ▸ Has.new w3 _ _)
  clear hW4 HW
  have HW := HW4
  have c0 := HF4.out.cell 0
  simp only [List.getElem?_toArray, List.getElem?_cons_zero, List.getElem?_cons_succ] at c0
  clear HW4 HF4
  go_wp2_with fail
  refine (HI.out _ HW.out.lo).mono ?_
  rintro e w5 ⟨rfl, hb⟩
  have HW5 := Lib.hid (HW.out.below hb)
  clear hb c0 HW
  have HB5 : Hid (Has ((w5.alloc (.cells #[.int .u64 f.s, .int .u64 f.d, .int .i64 f.k, .int .i64 f.op, .int .u64 f.sm, .int .u32 f.si, .int .u64 f.tm, .int .u32 f.ti, .int .u32 f.hs, .int .u32 f.hd, .int .i64 f.tl, .int .i64 f.pr, .int .i64 f.sp, .int .i64 f.dp, .int .u64 f.da] 32)).alloc (.cells #[.int .i64 0, .int .i64 0] 37)) w5.heap.size 32 f.cs) := Lib.hid ((Has.new w5 _ _).below ((Below.refl _ _).alloc (Nat.le_refl _) _))
  have HW6 : Hid (VRW w vp0 0 0 ((w5.alloc (.cells #[.int .u64 f.s, .int .u64 f.d, .int .i64 f.k, .int .i64 f.op, .int .u64 f.sm, .int .u32 f.si, .int .u64 f.tm, .int .u32 f.ti, .int .u32 f.hs, .int .u32 f.hd, .int .i64 f.tl, .int .i64 f.pr, .int .i64 f.sp, .int .i64 f.dp, .int .u64 f.da] 32)).alloc (.cells #[.int .i64 0, .int .i64 0] 37))) := Lib.hid (HW5.out.below (((Below.refl _ w5).alloc (Nat.le_refl _) _).alloc (by simp) _))
  have HLt : Hid (w.heap.size + 1 < w5.heap.size) := Lib.hid HW5.out.flt.lt
  go_upto_region 7 with fail
  obtain ⟨W6, hW6⟩ : ∃ W6, ((w5.alloc (.cells #[.int .u64 f.s, .int .u64 f.d, .int .i64 f.k, .int .i64 f.op, .int .u64 f.sm, .int .u32 f.si, .int .u64 f.tm, .int .u32 f.ti, .int .u32 f.hs, .int .u32 f.hd, .int .i64 f.tl, .int .i64 f.pr, .int .i64 f.sp, .int .i64 f.dp, .int .u64 f.da] 32)).alloc (.cells #[.int .i64 0, .int .i64 0] 37)) = W6 := ⟨_, rfl⟩
  rw [hW6] at HB5 HW6
  have HRg := Lib.hid (HRg0.out W6 HW6.out.lo)
  clear HW5
  try rw [hW6]
  clear hW6
  go_wp2_with (refine wpList_load_mid rfl 59 (.tmp 29) rfl b o rfl (u8s g36) _ HRg.out Try.underlying59 rfl HFt.out ?_)
  refine (HD.out _).mono ?_
  rintro e w7 ⟨rfl, hb⟩
  have HB7 := Lib.hid (HB5.out.below hb)
  have HW7 := Lib.hid (HW6.out.below hb)
  have HL7 : Hid (w5.heap.size < w7.heap.size) := Lib.hid HB7.out.lt
  clear hb HB5 HW6 HRg HRg0 HFt harr
  have hbn : Below w7.heap.size w7 (w7.alloc (.cells #[.int .u32 0, .int .u32 0, .int .i64 0, .int .i64 0, .int .u32 0, .int .u32 0, .int .u64 0, .int .u64 0, .int .i64 0, .int .i64 0, .int .u64 0, .int .u32 0, .int .u64 0, .int .u32 0, .int .u32 0, .int .u32 0, .int .i64 0, .int .i64 0, .int .i64 0, .int .i64 0, .int .u64 0] 34)) := (Below.refl _ w7).alloc (Nat.le_refl _) _
  have HN : Hid (Has (w7.alloc (.cells #[.int .u32 0, .int .u32 0, .int .i64 0, .int .i64 0, .int .u32 0, .int .u32 0, .int .u64 0, .int .u64 0, .int .i64 0, .int .i64 0, .int .u64 0, .int .u32 0, .int .u64 0, .int .u32 0, .int .u32 0, .int .u32 0, .int .i64 0, .int .i64 0, .int .i64 0, .int .i64 0, .int .u64 0] 34)) w7.heap.size 34 vp0.cs) := Lib.hid (Has.new _ _ _)
  have HB8 := Lib.hid (HB7.out.below hbn)
  have HW8 := Lib.hid (HW7.out.below hbn)
  clear hbn HB7 HW7
  go_upto_region 8 with (refine wpList_store_row rfl 34 (.tmp 7) (.tmp 31) rfl w7.heap.size q.cs rfl rfl 34 vp0.cs HN.out (VP.fit q) rfl (VP.one q) ?_; have HN9 : Hid (Has ((w7.alloc (.cells #[.int .u32 0, .int .u32 0, .int .i64 0, .int .i64 0, .int .u32 0, .int .u32 0, .int .u64 0, .int .u64 0, .int .i64 0, .int .i64 0, .int .u64 0, .int .u32 0, .int .u64 0, .int .u32 0, .int .u32 0, .int .u32 0, .int .i64 0, .int .i64 0, .int .i64 0, .int .i64 0, .int .u64 0] 34)).setRow w7.heap.size q.cs) w7.heap.size 34 q.cs) := Lib.hid (setRow_heap _ _ _ _ _ HN.out); have HB9 : Hid (Has ((w7.alloc (.cells #[.int .u32 0, .int .u32 0, .int .i64 0, .int .i64 0, .int .u32 0, .int .u32 0, .int .u64 0, .int .u64 0, .int .i64 0, .int .i64 0, .int .u64 0, .int .u32 0, .int .u64 0, .int .u32 0, .int .u32 0, .int .u32 0, .int .i64 0, .int .i64 0, .int .i64 0, .int .i64 0, .int .u64 0] 34)).setRow w7.heap.size q.cs) w5.heap.size 32 f.cs) := Lib.hid (HB8.out.grown (Only.row _) (by intro h9; injection h9 with h9; have := HL7.out; omega)); have HW9 : Hid (VRW w vp0 0 0 ((w7.alloc (.cells #[.int .u32 0, .int .u32 0, .int .i64 0, .int .i64 0, .int .u32 0, .int .u32 0, .int .u64 0, .int .u64 0, .int .i64 0, .int .i64 0, .int .u64 0, .int .u32 0, .int .u64 0, .int .u32 0, .int .u32 0, .int .u32 0, .int .i64 0, .int .i64 0, .int .i64 0, .int .i64 0, .int .u64 0] 34)).setRow w7.heap.size q.cs)) := Lib.hid (HW8.out.only (Only.row _) (by have := HL7.out; have := HLt.out; omega)); generalize (w7.alloc (.cells #[.int .u32 0, .int .u32 0, .int .i64 0, .int .i64 0, .int .u32 0, .int .u32 0, .int .u64 0, .int .u64 0, .int .i64 0, .int .i64 0, .int .u64 0, .int .u32 0, .int .u64 0, .int .u32 0, .int .u32 0, .int .u32 0, .int .i64 0, .int .i64 0, .int .i64 0, .int .i64 0, .int .u64 0] 34)).setRow w7.heap.size q.cs = W9 at HN9 HB9 HW9 ⊢; clear HN HB8 HW8)
  go_upto_region 9 with (first
    | (refine wpList_load_row rfl 32 (.tmp 5) rfl w5.heap.size rfl 32 f.cs (0, 0) _ HB9.out Try.underlying32 rfl f.fit ?_)
    | (refine wpList_store_mid rfl 32 (.tmp 33) (.tmp 32) rfl w7.heap.size 6 f.cs rfl rfl (HN9.out.vthere 6 15 (by simp [VP.size])) (FR.fit f) (FR.one f) ?_; have HN10 : Hid (Has (W9.setCells w7.heap.size 6 f.cs.toList) w7.heap.size 34 y.cs) := Lib.hid (by have h := Has.vsets f.cs.toList 6 _ _ HN9.out; rw [vsets_cs, HQY.out] at h; exact h); have HW10 : Hid (VRW w vp0 0 0 (W9.setCells w7.heap.size 6 f.cs.toList)) := Lib.hid (HW9.out.only (Only.vsets _ _ _ (only_refl _ _)) (by have := HL7.out; have := HLt.out; omega)); generalize W9.setCells w7.heap.size 6 f.cs.toList = W10 at HN10 HW10 ⊢; clear HN9 HB9 HW9))
  go_wp2_with (first | (refine wpList_load_row rfl 34 (.tmp 7) rfl w7.heap.size rfl 34 y.cs (0, 0) _ HN10.out Try.underlying34 rfl y.fit ?_))
  refine (HY.out _).mono ?_
  rintro e w12 ⟨b7, c7, rfl, hrow, _, hb⟩
  have HW12 := Lib.hid (HW10.out.below hb)
  have HN12 := Lib.hid (HN10.out.below hb)
  have HR7 := Lib.hid hrow
  clear hb HN10 HW10 hrow
  have HEq : Hid (∀ W, W = w12 → Calls Try.prog 26 #[.slice (some ⟨b7, 0, none⟩) m c7, .slice (some ⟨b, o, none⟩) n c] W fun e w' => e = .returned (.bool false) ∧ W = w') := Lib.hid (fun W hW => by
    subst hW
    have h := equal_any (.slice (some ⟨b7, 0, none⟩) m c7) (.slice (some ⟨b, o, none⟩) n c) (venc y) bs W (row_arr HR7.out HM.out) (HA.out.below HW12.out.lo) HPy.out HPos.out (venc_byte y) HBy.out
    rw [decide_eq_false HQ.out] at h
    exact h)
  go_wp2_with (first | (go_at_call 26; refine (HEq.out _ rfl).mono ?_; rintro e w15 ⟨rfl, rfl⟩) | (refine wpList_store_row rfl 34 (.tmp 2) (.tmp 47) rfl w.heap.size vp0.cs rfl rfl 34 vp0.cs HW12.out.zer (VP.fit vp0) rfl (VP.one vp0) ?_; have HW13 := Lib.hid (HW12.out.row vp0); generalize w12.setRow w.heap.size vp0.cs = W13 at HW13 ⊢; have q0 := HW13.out.flt.cell 0; have q1 := HW13.out.flt.cell 1; have p0 := HW13.out.flt.free 0; have p1 := HW13.out.flt.free 1; simp only [List.getElem?_toArray, List.getElem?_cons_zero, List.getElem?_cons_succ] at q0 q1))
  have HE := Lib.hid (HW13.out.set 3 0)
  exact bodyPost_ret (v := .tuple #[.agg vp0.cs, .agg #[.int .i64 3, .int .i64 0]]) (vread_results _ rfl rfl HE.out) rfl ⟨by rw [HF.out], HE.out.lo⟩

set_option maxHeartbeats 2000000 in
theorem vread_good (A : Option Addr) (c : Nat) (bs : List Int) (w : World) (hA : Arr w (.slice A bs.length c) bs) (hby : ∀ v ∈ bs, 0 ≤ v ∧ v ≤ 255) (hm : bs.length ≤ 100000) (hcap : bs.length ≤ c) (hf : (vhd bs).1 = 0) (h0 : (fread (bs.drop 36)).2.1 = 0) (hc : vchk (vdec bs (fread (bs.drop 36)).1) = 0) (hz : venc (vdec bs (fread (bs.drop 36)).1) = bs) :
    Calls Try.prog 10 #[.slice A bs.length c] w (VReads w bs) := by
  obtain ⟨h36, hh0, hvr⟩ := vhd_ok hf
  obtain ⟨n, hn⟩ : ∃ n, bs.length = n := ⟨_, rfl⟩
  have HH : Hid (∀ W, Below w.heap.size w W → Calls Try.prog 23 #[.slice A n c] W fun e w' => e = .returned (.agg #[.int .i64 0, .int .i64 0]) ∧ Below W.heap.size W w') := Lib.hid (fun W hb => by
    have h := head_any _ bs W (hA.below hb) hby
    rw [hh0, hn] at h
    exact h)
  obtain ⟨f, hfr⟩ : ∃ f, (fread (bs.drop 36)).1 = f := ⟨_, rfl⟩
  obtain ⟨er, her⟩ : ∃ er, (vin bs).2.1 = er := ⟨_, rfl⟩
  obtain ⟨i, hi⟩ : ∃ i, (vin bs).2.2 = i := ⟨_, rfl⟩
  have HI : Hid (∀ W, Below w.heap.size w W → Calls Try.prog 24 #[.slice A n c] W fun e w' => e = .returned (.tuple #[.agg #[.int .u64 f.s, .int .u64 f.d, .int .i64 f.k, .int .i64 f.op, .int .u64 f.sm, .int .u32 f.si, .int .u64 f.tm, .int .u32 f.ti, .int .u32 f.hs, .int .u32 f.hd, .int .i64 f.tl, .int .i64 f.pr, .int .i64 f.sp, .int .i64 f.dp, .int .u64 f.da], .agg #[.int .i64 er, .int .i64 i]]) ∧ Below W.heap.size W w') := Lib.hid (fun W hb => by
    have h := inner_any A c bs W (hA.below hb) hby h36 hm hcap
    unfold InTo at h
    rw [her, hi, hn] at h
    rw [show (vin bs).1 = f from hfr] at h
    exact h)
  obtain ⟨b, o, rfl, hs⟩ : ∃ b o, A = some ⟨b, o, none⟩ ∧ Sl w b o bs := by
    rcases hA with ⟨_, h⟩ | ⟨ad, c', h1, h2⟩
    · rw [h] at h36; simp at h36
    · injection h1 with h1 _ _
      subst h1
      obtain ⟨b, o, rfl, hs⟩ := h2.plain (by omega)
      exact ⟨b, o, rfl, hs⟩
  have HLen : Hid ((bs.take 36).length = 36) := Lib.hid (by rw [List.length_take]; omega)
  have HD : Hid (∀ W, Calls Try.prog 25 #[.agg (u8s (bs.take 36)).toArray] W fun e w' => e = .returned (.agg (vdec (bs.take 36) fr0).cs) ∧ Below W.heap.size W w') := Lib.hid (fun W => vdecode (bs.take 36) HLen.out (fun v hv => hby v (List.mem_of_mem_take hv)) W)
  have HRg0 : Hid (∀ W, Below w.heap.size w W → W.rangeAt b o (u8s (bs.take 36))) := Lib.hid (fun W hb j u hu => by
    have hj : j < (bs.take 36).length := by
      obtain ⟨hj, _⟩ := List.getElem?_eq_some_iff.1 hu
      simpa [u8s] using hj
    have hj2 : j < bs.length := by rw [List.length_take] at hj; omega
    rw [hb.cell (p := ⟨b, o + j, none⟩) (cell_block (hs j hj2)), hs j hj2, ← hu]
    simp only [u8s, List.getElem?_map]
    rw [List.getElem?_eq_getElem hj]
    simp [List.getElem_take])
  have HFt : Hid ((Try.prog.info? 59).map (·.size) = some (u8s (bs.take 36)).length) := Lib.hid (by rw [List.length_map, HLen.out]; exact fit36)
  have harr := arr36 b o c
  obtain ⟨g36, hg36⟩ : ∃ l, bs.take 36 = l := ⟨_, rfl⟩
  have hvt := vdec_take bs f
  rw [hg36] at HLen HD HRg0 HFt hvt
  have he : er = 0 := by rw [← her]; exact h0
  have hi2 : i = 0 := by rw [← hi]; unfold vin; rw [if_pos h0]; exact (fread_ok h0).2.2.2.2.1
  subst he hi2
  obtain ⟨q, hq⟩ : ∃ q, vdec g36 fr0 = q := ⟨_, rfl⟩
  rw [hq] at HD
  obtain ⟨y, hy⟩ : ∃ y, vdec bs f = y := ⟨_, rfl⟩
  have HQY : Hid ((⟨q.a, q.b, q.t, q.n, q.v, q.m, f⟩ : VP) = y) := Lib.hid (by rw [hvt q hq, hy])
  have hyt : y.ty := by rw [← hy, ← hfr]; exact vdec_ty hby (fread_ty (fun v hv => hby v (List.mem_of_mem_drop hv)) h0)
  rw [hfr, hy] at hvr
  rw [if_neg (by simpa using h0)] at hvr
  rw [hfr, hy] at hc
  obtain ⟨m, hm7⟩ : ∃ m, (venc y).length = m := ⟨_, rfl⟩
  have HY : Hid (∀ W : World, Calls Try.prog 11 #[.agg y.cs] W fun e w' => ∃ b c, e = .returned (.tuple #[.slice (some ⟨b, 0, none⟩) m c, .int .i64 0]) ∧ Row w' b c (venc y) ∧ W.heap.size ≤ b ∧ Below W.heap.size W w') := Lib.hid (fun W => hm7 ▸ vbytes_yes y hyt hc W)
  have HM := Lib.hid hm7
  have HA : Hid (Arr w (.slice (some ⟨b, o, none⟩) n c) bs) := Lib.hid (hn ▸ hA)
  have HPy : Hid (0 < (venc y).length) := Lib.hid (by rw [venc_len]; omega)
  have HPos : Hid (0 < bs.length) := Lib.hid (by omega)
  have HBy := Lib.hid hby
  have e2 : (36 : Int) ≤ (c : Int) := by omega
  clear hm7 hA
  rw [hfr, hy] at hz
  have HQ := Lib.hid hz
  have HF : Hid (vread bs = (y, 0, 0)) := Lib.hid (by rw [hvr, if_pos ⟨hc, hz⟩])
  clear hz
  rw [hn]
  clear hn her hi hby hf hm hcap h36 hh0 hvr hfr h0 hs hq hy hyt hc hg36 hvt
  obtain ⟨W2, hW2⟩ : ∃ W2, ((w.alloc (.cells #[.int .u32 0, .int .u32 0, .int .i64 0, .int .i64 0, .int .u32 0, .int .u32 0, .int .u64 0, .int .u64 0, .int .i64 0, .int .i64 0, .int .u64 0, .int .u32 0, .int .u64 0, .int .u32 0, .int .u32 0, .int .u32 0, .int .i64 0, .int .i64 0, .int .i64 0, .int .i64 0, .int .u64 0] 34)).alloc (.cells #[.int .i64 0, .int .i64 0] 37)) = W2 := ⟨_, rfl⟩
  have HW : Hid (VRW w vp0 0 0 W2) := Lib.hid (hW2 ▸ VRW.start w)
  go_enter Try.func10, Try.ntmps10
  go_wp2_with fail
  try rw [hW2]
  clear hW2
  refine (HH.out _ HW.out.lo).mono ?_
  rintro e w3 ⟨rfl, hb⟩
  have HV := Lib.hid (HW.out.below hb)
  clear hb HW
  have HW := HV
  clear HV
  go_upto_region 2 with fail
  obtain ⟨W4, hW4⟩ : ∃ W4, w3.alloc (.cells #[.int .i64 0, .int .i64 0] 37) = W4 := ⟨_, rfl⟩
  try rw [hW4]
  have HW4 : Hid (VRW w vp0 0 0 W4) := Lib.hid (hW4 ▸ HW.out.below ((Below.refl _ w3).alloc (Nat.le_refl _) _))
  have HF4 : Hid (Has W4 w3.heap.size 37 #[.int .i64 0, .int .i64 0]) := Lib.hid (hW4 ▸ Has.new w3 _ _)
  clear hW4 HW
  have HW := HW4
  have c0 := HF4.out.cell 0
  simp only [List.getElem?_toArray, List.getElem?_cons_zero, List.getElem?_cons_succ] at c0
  clear HW4 HF4
  go_wp2_with fail
  refine (HI.out _ HW.out.lo).mono ?_
  rintro e w5 ⟨rfl, hb⟩
  have HW5 := Lib.hid (HW.out.below hb)
  clear hb c0 HW
  have HB5 : Hid (Has ((w5.alloc (.cells #[.int .u64 f.s, .int .u64 f.d, .int .i64 f.k, .int .i64 f.op, .int .u64 f.sm, .int .u32 f.si, .int .u64 f.tm, .int .u32 f.ti, .int .u32 f.hs, .int .u32 f.hd, .int .i64 f.tl, .int .i64 f.pr, .int .i64 f.sp, .int .i64 f.dp, .int .u64 f.da] 32)).alloc (.cells #[.int .i64 0, .int .i64 0] 37)) w5.heap.size 32 f.cs) := Lib.hid ((Has.new w5 _ _).below ((Below.refl _ _).alloc (Nat.le_refl _) _))
  have HW6 : Hid (VRW w vp0 0 0 ((w5.alloc (.cells #[.int .u64 f.s, .int .u64 f.d, .int .i64 f.k, .int .i64 f.op, .int .u64 f.sm, .int .u32 f.si, .int .u64 f.tm, .int .u32 f.ti, .int .u32 f.hs, .int .u32 f.hd, .int .i64 f.tl, .int .i64 f.pr, .int .i64 f.sp, .int .i64 f.dp, .int .u64 f.da] 32)).alloc (.cells #[.int .i64 0, .int .i64 0] 37))) := Lib.hid (HW5.out.below (((Below.refl _ w5).alloc (Nat.le_refl _) _).alloc (by simp) _))
  have HLt : Hid (w.heap.size + 1 < w5.heap.size) := Lib.hid HW5.out.flt.lt
  go_upto_region 7 with fail
  obtain ⟨W6, hW6⟩ : ∃ W6, ((w5.alloc (.cells #[.int .u64 f.s, .int .u64 f.d, .int .i64 f.k, .int .i64 f.op, .int .u64 f.sm, .int .u32 f.si, .int .u64 f.tm, .int .u32 f.ti, .int .u32 f.hs, .int .u32 f.hd, .int .i64 f.tl, .int .i64 f.pr, .int .i64 f.sp, .int .i64 f.dp, .int .u64 f.da] 32)).alloc (.cells #[.int .i64 0, .int .i64 0] 37)) = W6 := ⟨_, rfl⟩
  rw [hW6] at HB5 HW6
  have HRg := Lib.hid (HRg0.out W6 HW6.out.lo)
  clear HW5
  try rw [hW6]
  clear hW6
  go_wp2_with (refine wpList_load_mid rfl 59 (.tmp 29) rfl b o rfl (u8s g36) _ HRg.out Try.underlying59 rfl HFt.out ?_)
  refine (HD.out _).mono ?_
  rintro e w7 ⟨rfl, hb⟩
  have HB7 := Lib.hid (HB5.out.below hb)
  have HW7 := Lib.hid (HW6.out.below hb)
  have HL7 : Hid (w5.heap.size < w7.heap.size) := Lib.hid HB7.out.lt
  clear hb HB5 HW6 HRg HRg0 HFt harr
  have hbn : Below w7.heap.size w7 (w7.alloc (.cells #[.int .u32 0, .int .u32 0, .int .i64 0, .int .i64 0, .int .u32 0, .int .u32 0, .int .u64 0, .int .u64 0, .int .i64 0, .int .i64 0, .int .u64 0, .int .u32 0, .int .u64 0, .int .u32 0, .int .u32 0, .int .u32 0, .int .i64 0, .int .i64 0, .int .i64 0, .int .i64 0, .int .u64 0] 34)) := (Below.refl _ w7).alloc (Nat.le_refl _) _
  have HN : Hid (Has (w7.alloc (.cells #[.int .u32 0, .int .u32 0, .int .i64 0, .int .i64 0, .int .u32 0, .int .u32 0, .int .u64 0, .int .u64 0, .int .i64 0, .int .i64 0, .int .u64 0, .int .u32 0, .int .u64 0, .int .u32 0, .int .u32 0, .int .u32 0, .int .i64 0, .int .i64 0, .int .i64 0, .int .i64 0, .int .u64 0] 34)) w7.heap.size 34 vp0.cs) := Lib.hid (Has.new _ _ _)
  have HB8 := Lib.hid (HB7.out.below hbn)
  have HW8 := Lib.hid (HW7.out.below hbn)
  clear hbn HB7 HW7
  go_upto_region 8 with (refine wpList_store_row rfl 34 (.tmp 7) (.tmp 31) rfl w7.heap.size q.cs rfl rfl 34 vp0.cs HN.out (VP.fit q) rfl (VP.one q) ?_; have HN9 : Hid (Has ((w7.alloc (.cells #[.int .u32 0, .int .u32 0, .int .i64 0, .int .i64 0, .int .u32 0, .int .u32 0, .int .u64 0, .int .u64 0, .int .i64 0, .int .i64 0, .int .u64 0, .int .u32 0, .int .u64 0, .int .u32 0, .int .u32 0, .int .u32 0, .int .i64 0, .int .i64 0, .int .i64 0, .int .i64 0, .int .u64 0] 34)).setRow w7.heap.size q.cs) w7.heap.size 34 q.cs) := Lib.hid (setRow_heap _ _ _ _ _ HN.out); have HB9 : Hid (Has ((w7.alloc (.cells #[.int .u32 0, .int .u32 0, .int .i64 0, .int .i64 0, .int .u32 0, .int .u32 0, .int .u64 0, .int .u64 0, .int .i64 0, .int .i64 0, .int .u64 0, .int .u32 0, .int .u64 0, .int .u32 0, .int .u32 0, .int .u32 0, .int .i64 0, .int .i64 0, .int .i64 0, .int .i64 0, .int .u64 0] 34)).setRow w7.heap.size q.cs) w5.heap.size 32 f.cs) := Lib.hid (HB8.out.grown (Only.row _) (by intro h9; injection h9 with h9; have := HL7.out; omega)); have HW9 : Hid (VRW w vp0 0 0 ((w7.alloc (.cells #[.int .u32 0, .int .u32 0, .int .i64 0, .int .i64 0, .int .u32 0, .int .u32 0, .int .u64 0, .int .u64 0, .int .i64 0, .int .i64 0, .int .u64 0, .int .u32 0, .int .u64 0, .int .u32 0, .int .u32 0, .int .u32 0, .int .i64 0, .int .i64 0, .int .i64 0, .int .i64 0, .int .u64 0] 34)).setRow w7.heap.size q.cs)) := Lib.hid (HW8.out.only (Only.row _) (by have := HL7.out; have := HLt.out; omega)); generalize (w7.alloc (.cells #[.int .u32 0, .int .u32 0, .int .i64 0, .int .i64 0, .int .u32 0, .int .u32 0, .int .u64 0, .int .u64 0, .int .i64 0, .int .i64 0, .int .u64 0, .int .u32 0, .int .u64 0, .int .u32 0, .int .u32 0, .int .u32 0, .int .i64 0, .int .i64 0, .int .i64 0, .int .i64 0, .int .u64 0] 34)).setRow w7.heap.size q.cs = W9 at HN9 HB9 HW9 ⊢; clear HN HB8 HW8)
  go_upto_region 9 with (first
    | (refine wpList_load_row rfl 32 (.tmp 5) rfl w5.heap.size rfl 32 f.cs (0, 0) _ HB9.out Try.underlying32 rfl f.fit ?_)
    | (refine wpList_store_mid rfl 32 (.tmp 33) (.tmp 32) rfl w7.heap.size 6 f.cs rfl rfl (HN9.out.vthere 6 15 (by simp [VP.size])) (FR.fit f) (FR.one f) ?_; have HN10 : Hid (Has (W9.setCells w7.heap.size 6 f.cs.toList) w7.heap.size 34 y.cs) := Lib.hid (by have h := Has.vsets f.cs.toList 6 _ _ HN9.out; rw [vsets_cs, HQY.out] at h; exact h); have HW10 : Hid (VRW w vp0 0 0 (W9.setCells w7.heap.size 6 f.cs.toList)) := Lib.hid (HW9.out.only (Only.vsets _ _ _ (only_refl _ _)) (by have := HL7.out; have := HLt.out; omega)); generalize W9.setCells w7.heap.size 6 f.cs.toList = W10 at HN10 HW10 ⊢; clear HN9 HB9 HW9))
  go_wp2_with (first | (refine wpList_load_row rfl 34 (.tmp 7) rfl w7.heap.size rfl 34 y.cs (0, 0) _ HN10.out Try.underlying34 rfl y.fit ?_))
  refine (HY.out _).mono ?_
  rintro e w12 ⟨b7, c7, rfl, hrow, _, hb⟩
  have HW12 := Lib.hid (HW10.out.below hb)
  have HN12 := Lib.hid (HN10.out.below hb)
  have HR7 := Lib.hid hrow
  clear hb HN10 HW10 hrow
  have HEq : Hid (∀ W, W = w12 → Calls Try.prog 26 #[.slice (some ⟨b7, 0, none⟩) m c7, .slice (some ⟨b, o, none⟩) n c] W fun e w' => e = .returned (.bool true) ∧ W = w') := Lib.hid (fun W hW => by
    subst hW
    have h := equal_any (.slice (some ⟨b7, 0, none⟩) m c7) (.slice (some ⟨b, o, none⟩) n c) (venc y) bs W (row_arr HR7.out HM.out) (HA.out.below HW12.out.lo) HPy.out HPos.out (venc_byte y) HBy.out
    rw [decide_eq_true HQ.out] at h
    exact h)
  go_wp2_with (first | (go_at_call 26; refine (HEq.out _ rfl).mono ?_; rintro e w15 ⟨rfl, rfl⟩) | (refine wpList_load_row rfl 34 (.tmp 7) rfl w7.heap.size rfl 34 y.cs (0, 0) _ HN12.out Try.underlying34 rfl y.fit ?_) | (refine wpList_store_row rfl 34 (.tmp 2) (.tmp 49) rfl w.heap.size y.cs rfl rfl 34 vp0.cs HW12.out.zer (VP.fit y) rfl (VP.one y) ?_; have HW13 := Lib.hid (HW12.out.row y); generalize w12.setRow w.heap.size y.cs = W13 at HW13 ⊢; have q0 := HW13.out.flt.cell 0; have q1 := HW13.out.flt.cell 1; have p0 := HW13.out.flt.free 0; have p1 := HW13.out.flt.free 1; simp only [List.getElem?_toArray, List.getElem?_cons_zero, List.getElem?_cons_succ] at q0 q1))
  have HE := Lib.hid (HW13.out.set 0 0)
  exact bodyPost_ret (v := .tuple #[.agg y.cs, .agg #[.int .i64 0, .int .i64 0]]) (vread_results _ rfl rfl HE.out) rfl ⟨by rw [HF.out], HE.out.lo⟩

/-- **Read, of whatever slice.** -/
theorem vread_any (A : Option Addr) (c : Nat) (bs : List Int) (w : World) (hA : Arr w (.slice A bs.length c) bs) (hby : ∀ v ∈ bs, 0 ≤ v ∧ v ≤ 255) (hm : bs.length ≤ 100000) (hcap : bs.length ≤ c) :
    Calls Try.prog 10 #[.slice A bs.length c] w (VReads w bs) := by
  by_cases hf : (vhd bs).1 = 0
  · by_cases h0 : (fread (bs.drop 36)).2.1 = 0
    · by_cases hc : vchk (vdec bs (fread (bs.drop 36)).1) = 0
      · by_cases hz : venc (vdec bs (fread (bs.drop 36)).1) = bs
        · exact vread_good A c bs w hA hby hm hcap hf h0 hc hz
        · exact vread_bad2 A c bs w hA hby hm hcap hf h0 hc hz
      · exact vread_bad1 A c bs w hA hby hm hcap hf h0 hc
    · exact vread_inner A c bs w hA hby hm hcap hf h0
  · exact vread_head A c bs w hA hby hm hcap hf

end Go.Proofs.Ytgdfpmnbofnjfaa
