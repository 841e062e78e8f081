/- Packets: Read; written by gen_pkw.py. -/
import Derived.Test.YtgdfpmnbofnjfaaZPr
namespace Go.Proofs.Ytgdfpmnbofnjfaa
open Go.RowKit Go.Shelf
set_option linter.unusedVariables false
set_option linter.unusedSimpArgs false
set_option maxRecDepth 100000

/-- What Read answers: the frame and the fault. -/
def fread (bs : List Int) : FR × Int × Int :=
  if (szP bs).2.1 ≠ 0 then (fr0, (szP bs).2.1, (szP bs).2.2)
  else if (bs.length : Int) < (szP bs).1 then (fr0, 4, bs.length)
  else if (szP bs).1 < (bs.length : Int) then (fr0, 5, (szP bs).1)
  else if fchk (dcP bs) = 0 ∧ fenc (dcP bs) = bs then (dcP bs, 0, 0) else (fr0, 3, 0)

/-- The two results in their blocks. -/
structure RW (w : World) (x : FR) (er i : Int) (W : World) : Prop where
  zer : Has W w.heap.size 32 x.cs
  flt : Has W (w.heap.size + 1) 37 #[.int .i64 er, .int .i64 i]
  lo : Below w.heap.size w W
section
variable {w W W' : World} {x : FR} {er i : Int}
theorem RW.below (H : RW w x er i W) (hb : Below W.heap.size W W') : RW w x er i W' := ⟨H.zer.below hb, H.flt.below hb, H.lo.trans (hb.mono H.lo.size)⟩
theorem RW.row (H : RW w x er i W) (x' : FR) : RW w x' er i (W.setRow w.heap.size x'.cs) :=
  ⟨setRow_heap _ _ _ _ _ H.zer, H.flt.grown (Only.row _) (by intro h9; injection h9 with h9; omega), setRow_below H.lo (Nat.le_refl _) H.lo.size⟩
theorem RW.set (H : RW w x er i W) (er' i' : Int) : RW w x er' i' ((W.setCell ⟨w.heap.size + 1, 0, none⟩ (.int .i64 er')).setCell ⟨w.heap.size + 1, 1, none⟩ (.int .i64 i')) :=
  ⟨(H.zer.grown (only_set (only_refl W (w.heap.size + 1)) (p := ⟨w.heap.size + 1, 0, none⟩) (.inl rfl) _) (by intro h9; injection h9 with h9; omega)).grown (only_set (only_refl _ (w.heap.size + 1)) (p := ⟨w.heap.size + 1, 1, none⟩) (.inl rfl) _) (by intro h9; injection h9 with h9; omega),
   (H.flt.set_ 0 (.int .i64 er')).set_ 1 (.int .i64 i'), (H.lo.setCell (p := ⟨w.heap.size + 1, 0, none⟩) (by show w.heap.size ≤ w.heap.size + 1; omega) _).setCell (p := ⟨w.heap.size + 1, 1, none⟩) (by show w.heap.size ≤ w.heap.size + 1; omega) _⟩
end
theorem RW.start (w : World) : RW w fr0 0 0 ((w.alloc (.cells #[.int .u64 0, .int .u64 0, .int .i64 0, .int .i64 0, .int .u64 0, .int .u32 0, .int .u64 0, .int .u32 0, .int .u32 0, .int .u32 0, .int .i64 0, .int .i64 0, .int .i64 0, .int .i64 0, .int .u64 0] 32)).alloc (.cells #[.int .i64 0, .int .i64 0] 37)) := by
  refine ⟨(Has.new w _ _).below ((Below.refl _ _).alloc (Nat.le_refl _) _), ?_, ((Below.refl _ w).alloc (Nat.le_refl _) _).alloc (by simp) _⟩
  have h1 := Has.new (w.alloc (.cells #[.int .u64 0, .int .u64 0, .int .i64 0, .int .i64 0, .int .u64 0, .int .u32 0, .int .u64 0, .int .u32 0, .int .u32 0, .int .u32 0, .int .i64 0, .int .i64 0, .int .i64 0, .int .i64 0, .int .u64 0] 32)) 37 #[.int .i64 0, .int .i64 0]
  rw [World.size_alloc] at h1
  exact h1
theorem ft_fit : (Try.prog.info? 37).map (·.size) = some 2 := by kernel_rfl
theorem read_results {w W : World} {x : FR} {er i : Int} (tmps : Array Value) (h2 : tmps[2]?.getD undef = .pointer (some ⟨w.heap.size, 0, none⟩)) (h3 : tmps[3]?.getD undef = .pointer (some ⟨w.heap.size + 1, 0, none⟩)) (q : RW w x er i W) :
    (results Try.f42 tmps).run Try.prog W = .ok (.tuple #[.agg x.cs, .agg #[.int .i64 er, .int .i64 i]]) W := by
  have hl := run_loadVar_row W w.heap.size 32 32 x.cs (0, 0) _ q.zer Try.underlying32 rfl x.fit
  have hl2 := run_loadVar_row W (w.heap.size + 1) 37 37 #[.int .i64 er, .int .i64 i] (0, 0) _ q.flt Try.underlying37 rfl ft_fit
  simp [results, Try.f42, asAddr, Result.andThen, h2, h3, hl, hl2]

/-- The ranges of what is decoded. -/
theorem nm_i64 {bs : List Int} (hb : ∀ v ∈ bs, 0 ≤ v ∧ v ≤ 255) (p m : Nat) (hm : m ≤ 2) : (Lit.int .i64 (nm bs p m)).wf = true := by
  have h := nm_bd hb p m
  have h2 : (256 : Int) ^ m ≤ 256 ^ 2 := pow_mono 2 hm
  have h3 : -9223372036854775808 ≤ nm bs p m ∧ nm bs p m ≤ 9223372036854775807 := by omega
  exact has_wf (show IntKind.i64.has (nm bs p m) from h3)
theorem nm_u64 {bs : List Int} (hb : ∀ v ∈ bs, 0 ≤ v ∧ v ≤ 255) (p m : Nat) (hm : m ≤ 8) : 0 ≤ nm bs p m ∧ nm bs p m < 18446744073709551616 := by
  have h := nm_bd hb p m
  have h2 : (256 : Int) ^ m ≤ 256 ^ 8 := pow_mono 8 hm
  omega
theorem nm_u32 {bs : List Int} (hb : ∀ v ∈ bs, 0 ≤ v ∧ v ≤ 255) (p m : Nat) (hm : m ≤ 4) : 0 ≤ nm bs p m ∧ nm bs p m < 4294967296 := by
  have h := nm_bd hb p m
  have h2 : (256 : Int) ^ m ≤ 256 ^ 4 := pow_mono 4 hm
  omega
theorem z_i (n : Int) (h : n = 0 ∨ n = 1 ∨ n = 2) : (Lit.int .i64 n).wf = true := by rcases h with rfl | rfl | rfl <;> decide
theorem z_u : (0 : Int) ≤ 0 ∧ (0 : Int) < 18446744073709551616 := by decide
theorem z_w : (0 : Int) ≤ 0 ∧ (0 : Int) < 4294967296 := by decide
theorem dcP_ty {bs : List Int} (hb : ∀ v ∈ bs, 0 ≤ v ∧ v ≤ 255) : (dcP bs).ty := by
  unfold dcP
  split
  · exact ⟨nm_u64 hb _ _ (by decide), nm_u64 hb _ _ (by decide), z_i _ (.inr (.inl rfl)), nm_i64 hb _ _ (by decide), nm_u64 hb _ _ (by decide), nm_u32 hb _ _ (by decide), nm_u64 hb _ _ (by decide), nm_u32 hb _ _ (by decide), z_w, z_w, z_i _ (.inl rfl), z_i _ (.inl rfl), z_i _ (.inl rfl), z_i _ (.inl rfl), nm_u64 hb _ _ (by decide)⟩
  split
  · split
    · exact ⟨nm_u64 hb _ _ (by decide), nm_u64 hb _ _ (by decide), z_i _ (.inr (.inr rfl)), z_i _ (.inl rfl), z_u, z_w, z_u, z_w, nm_u32 hb _ _ (by decide), nm_u32 hb _ _ (by decide), nm_i64 hb _ _ (by decide), nm_i64 hb _ _ (by decide), nm_i64 hb _ _ (by decide), nm_i64 hb _ _ (by decide), nm_u64 hb _ _ (by decide)⟩
    · exact ⟨nm_u64 hb _ _ (by decide), nm_u64 hb _ _ (by decide), z_i _ (.inr (.inr rfl)), z_i _ (.inl rfl), z_u, z_w, z_u, z_w, nm_u32 hb _ _ (by decide), nm_u32 hb _ _ (by decide), nm_i64 hb _ _ (by decide), nm_i64 hb _ _ (by decide), z_i _ (.inl rfl), z_i _ (.inl rfl), nm_u64 hb _ _ (by decide)⟩
  · exact ⟨nm_u64 hb _ _ (by decide), nm_u64 hb _ _ (by decide), z_i _ (.inl rfl), z_i _ (.inl rfl), z_u, z_w, z_u, z_w, z_w, z_w, z_i _ (.inl rfl), z_i _ (.inl rfl), z_i _ (.inl rfl), z_i _ (.inl rfl), nm_u64 hb _ _ (by decide)⟩

/-- What Read returns. -/
def ReadsTo (w : World) (bs : List Int) (e : Ending) (w' : World) : Prop := e = .returned (.tuple #[.agg (fread bs).1.cs, .agg #[.int .i64 (fread bs).2.1, .int .i64 (fread bs).2.2]]) ∧ Below w.heap.size w w'

set_option maxHeartbeats 2000000 in
theorem read_fault (A : Option Addr) (c : Nat) (bs : List Int) (w : World) (hA : Arr w (.slice A bs.length c) bs) (hby : ∀ v ∈ bs, 0 ≤ v ∧ v ≤ 255) (hf : (szP bs).2.1 ≠ 0) :
    Calls Try.prog 42 #[.slice A bs.length c] w (ReadsTo w bs) := by
  obtain ⟨n, hn⟩ : ∃ n, bs.length = n := ⟨_, rfl⟩
  obtain ⟨sz, hsz⟩ : ∃ sz, (szP bs).1 = sz := ⟨_, rfl⟩
  obtain ⟨er, her⟩ : ∃ er, (szP bs).2.1 = er := ⟨_, rfl⟩
  obtain ⟨i, hi⟩ : ∃ i, (szP bs).2.2 = i := ⟨_, rfl⟩
  have HC : Hid (∀ W, Below w.heap.size w W → Calls Try.prog 66 #[.slice A n c] W fun e w' => e = .returned (.tuple #[.int .i64 sz, .agg #[.int .i64 er, .int .i64 i]]) ∧ Below W.heap.size W w') := Lib.hid (fun W hb => by
    have h := size_any _ bs W (hA.below hb) hby
    rw [hsz, her, hi, hn] at h
    exact h)
  have HF : Hid (fread bs = (fr0, er, i)) := Lib.hid (by unfold fread; rw [if_pos hf, her, hi])
  rw [her] at hf
  have hne : (er != 0) = true := by simpa using hf
  rw [hn]
  clear hn hsz her hi hA hby hf
  obtain ⟨W2, hW2⟩ : ∃ W2, ((w.alloc (.cells #[.int .u64 0, .int .u64 0, .int .i64 0, .int .i64 0, .int .u64 0, .int .u32 0, .int .u64 0, .int .u32 0, .int .u32 0, .int .u32 0, .int .i64 0, .int .i64 0, .int .i64 0, .int .i64 0, .int .u64 0] 32)).alloc (.cells #[.int .i64 0, .int .i64 0] 37)) = W2 := ⟨_, rfl⟩
  have HW : Hid (RW w fr0 0 0 W2) := Lib.hid (hW2 ▸ RW.start w)
  go_enter Try.func42, Try.ntmps42
  go_wp2_with fail
  try rw [hW2]
  clear hW2
  refine (HC.out _ HW.out.lo).mono ?_
  rintro e w3 ⟨rfl, hb⟩
  have HV := Lib.hid (HW.out.below hb)
  clear hb HW
  have HW := HV
  clear HV
  go_upto_region 3 with fail
  obtain ⟨W4, hW4⟩ : ∃ W4, w3.alloc (.cells #[.int .i64 er, .int .i64 i] 37) = W4 := ⟨_, rfl⟩
  have HW4 : Hid (RW w fr0 0 0 W4.drew) := Lib.hid (hW4 ▸ HW.out.below ((Below.refl _ w3).alloc (Nat.le_refl _) _).drew)
  have HF4 : Hid (Has W4.drew w3.heap.size 37 #[.int .i64 er, .int .i64 i]) := Lib.hid (hW4 ▸ Has.new w3 _ _)
  have HLt : Hid (w.heap.size + 1 < w3.heap.size) := Lib.hid HW.out.flt.lt
  try rw [hW4]
  clear hW4 HW
  have HS : Hid (∀ W : World, Has W w3.heap.size 37 #[.int .i64 er, .int .i64 i] → (W.cell? ⟨w3.heap.size, 0, none⟩ = some (.int .i64 er) ∧ W.cell? ⟨w3.heap.size, 1, none⟩ = some (.int .i64 i))) := Lib.hid (fun W h => ⟨h.cell 0, h.cell 1⟩)
  refine wp_region_held_drew (S := (fun w' => w'.cell? ⟨w3.heap.size, 0, none⟩ = some (.int .i64 er) ∧ w'.cell? ⟨w3.heap.size, 1, none⟩ = some (.int .i64 i))) (by kernel_rfl) (HS.out _ HF4.out) (fun hHeld => ?_)
  refine wpAnyH_take (i := 0) (oi := { dst := some 18, op := Go.Op.build 32 #[], type := 32, pos := "read.go:22", after := #[], guard := none }) (v := ?_) rfl (by kernel_rfl) (by kernel_rfl) (by kernel_rfl) (fun _ _ _ h => h) (Or.inl ⟨by rfl, ?_⟩) (by assumption) ?_
  rotate_left
  · intro wS hSw
    try dsimp only at hSw
    go_split_ands
    go_simp
    try with_reducible rfl
  try simp only [Act.put, List.setIfInBounds_toArray, List.set_cons_zero, List.set_cons_succ]
  refine wpAnyH_take (i := 1) (oi := { dst := some 19, op := Go.Op.load 37 (Go.Operand.tmp 5), type := 37, pos := "read.go:22", after := #[{ on := 2, ground := Go.Ground.gcOnly Go.Departure.lateStores }], guard := none }) (v := ?_) rfl (by kernel_rfl) (by kernel_rfl) (by kernel_rfl) (fun _ _ _ h => h) (Or.inl ⟨by rfl, ?_⟩) (by assumption) ?_
  rotate_left
  · intro wS hSw
    try dsimp only at hSw
    go_split_ands
    go_simp
    try with_reducible rfl
  try simp only [Act.put, List.setIfInBounds_toArray, List.set_cons_zero, List.set_cons_succ]
  refine wpAnyH_ready (rs := [2]) (by kernel_rfl) (by simp) ?_
  refine AllReadyH.cons (o := { dst := none, op := Go.Op.store 32 (Go.Operand.tmp 2) (Go.Operand.tmp 18), type := 0, pos := "read.go:22", after := #[{ on := 0, ground := Go.Ground.data }, { on := 0, ground := Go.Ground.phase }, { on := 1, ground := Go.Ground.textOnly Go.Departure.lateStores }], guard := none }) rfl (fun K hK => ?_) AllReadyH.nil
  refine stepStoreRow rfl 32 (.tmp 2) (.tmp 18) rfl w.heap.size fr0.cs rfl rfl 32 fr0.cs HW4.out.zer (FR.fit fr0) rfl (FR.one fr0) ?_
  have HW5 := Lib.hid (HW4.out.row fr0)
  have HF5 : Hid (Has (W4.drew.setRow w.heap.size fr0.cs) w3.heap.size 37 #[.int .i64 er, .int .i64 i]) := Lib.hid (HF4.out.grown (Only.row _) (by intro h9; injection h9 with h9; have := HLt.out; omega))
  refine hK.out _ _ (HS.out _ HF5.out) (fun hHeld => ?_)
  clear hK K
  try simp only [Act.put, List.setIfInBounds_toArray, List.set_cons_zero, List.set_cons_succ]
  generalize W4.drew.setRow w.heap.size fr0.cs = W5 at *
  clear HW4 HF4
  refine wpAnyH_ready (rs := [3]) (by kernel_rfl) (by simp) ?_
  refine AllReadyH.cons (o := { dst := none, op := Go.Op.store 37 (Go.Operand.tmp 3) (Go.Operand.tmp 19), type := 0, pos := "read.go:22", after := #[{ on := 1, ground := Go.Ground.data }, { on := 2, ground := Go.Ground.chain }, { on := 0, ground := Go.Ground.phase }, { on := 1, ground := Go.Ground.phase }, { on := 2, ground := Go.Ground.phase }], guard := none }) rfl (fun K hK => ?_) AllReadyH.nil
  have q0 := HW5.out.flt.cell 0
  have q1 := HW5.out.flt.cell 1
  have p0 := HW5.out.flt.free 0
  have p1 := HW5.out.flt.free 1
  simp only [List.getElem?_toArray, List.getElem?_cons_zero, List.getElem?_cons_succ] at q0 q1
  go_simp
  refine hK.out _ _ (HS.out _ ?_) (fun hHeld => ?_)
  · exact (HF5.out.grown (only_set (only_refl _ (w.heap.size + 1)) (p := ⟨w.heap.size + 1, 0, none⟩) (.inl rfl) _) (by intro h9; injection h9 with h9; have := HLt.out; omega)).grown (only_set (only_refl _ (w.heap.size + 1)) (p := ⟨w.heap.size + 1, 1, none⟩) (.inl rfl) _) (by intro h9; injection h9 with h9; have := HLt.out; omega)
  clear hK K
  try simp only [Act.put, List.setIfInBounds_toArray, List.set_cons_zero, List.set_cons_succ]
  refine wpAnyH_done (by kernel_rfl) ?_ _
  have HE := Lib.hid (HW5.out.set er i)
  go_wp2_with fail
  exact bodyPost_ret (v := .tuple #[.agg fr0.cs, .agg #[.int .i64 er, .int .i64 i]]) (read_results _ rfl rfl HE.out) rfl ⟨by rw [HF.out], HE.out.lo⟩

set_option maxHeartbeats 2000000 in
theorem read_short (A : Option Addr) (c : Nat) (bs : List Int) (w : World) (hA : Arr w (.slice A bs.length c) bs) (hby : ∀ v ∈ bs, 0 ≤ v ∧ v ≤ 255) (hf : (szP bs).2.1 = 0) (hs : (bs.length : Int) < (szP bs).1) :
    Calls Try.prog 42 #[.slice A bs.length c] w (ReadsTo w bs) := by
  obtain ⟨n, hn⟩ : ∃ n, bs.length = n := ⟨_, rfl⟩
  obtain ⟨sz, hsz⟩ : ∃ sz, (szP bs).1 = sz := ⟨_, rfl⟩
  obtain ⟨er, her⟩ : ∃ er, (szP bs).2.1 = er := ⟨_, rfl⟩
  obtain ⟨i, hi⟩ : ∃ i, (szP bs).2.2 = i := ⟨_, rfl⟩
  have HC : Hid (∀ W, Below w.heap.size w W → Calls Try.prog 66 #[.slice A n c] W fun e w' => e = .returned (.tuple #[.int .i64 sz, .agg #[.int .i64 er, .int .i64 i]]) ∧ Below W.heap.size W w') := Lib.hid (fun W hb => by
    have h := size_any _ bs W (hA.below hb) hby
    rw [hsz, her, hi, hn] at h
    exact h)
  have HF : Hid (fread bs = (fr0, 4, (n : Int))) := Lib.hid (by unfold fread; rw [if_neg (by omega), if_pos hs, hn])
  rw [hsz, hn] at hs
  rw [her] at hf
  subst hf
  rw [hn]
  clear hn hsz hi hA hby her
  obtain ⟨W2, hW2⟩ : ∃ W2, ((w.alloc (.cells #[.int .u64 0, .int .u64 0, .int .i64 0, .int .i64 0, .int .u64 0, .int .u32 0, .int .u64 0, .int .u32 0, .int .u32 0, .int .u32 0, .int .i64 0, .int .i64 0, .int .i64 0, .int .i64 0, .int .u64 0] 32)).alloc (.cells #[.int .i64 0, .int .i64 0] 37)) = W2 := ⟨_, rfl⟩
  have HW : Hid (RW w fr0 0 0 W2) := Lib.hid (hW2 ▸ RW.start w)
  go_enter Try.func42, Try.ntmps42
  go_wp2_with fail
  try rw [hW2]
  clear hW2
  refine (HC.out _ HW.out.lo).mono ?_
  rintro e w3 ⟨rfl, hb⟩
  have HV := Lib.hid (HW.out.below hb)
  clear hb HW
  have HW := HV
  clear HV
  obtain ⟨W4, hW4⟩ : ∃ W4, w3.alloc (.cells #[.int .i64 0, .int .i64 i] 37) = W4 := ⟨_, rfl⟩
  go_upto_region 2 with fail
  try rw [hW4]
  have HW4 : Hid (RW w fr0 0 0 W4) := Lib.hid (hW4 ▸ HW.out.below ((Below.refl _ w3).alloc (Nat.le_refl _) _))
  have HF4 : Hid (Has W4 w3.heap.size 37 #[.int .i64 0, .int .i64 i]) := Lib.hid (hW4 ▸ Has.new w3 _ _)
  clear hW4 HW
  have HW := HW4
  have c0 := HF4.out.cell 0
  simp only [List.getElem?_toArray, List.getElem?_cons_zero, List.getElem?_cons_succ] at c0
  clear HW4 HF4
  go_wp2_with (refine wpList_store_row rfl 32 (.tmp 2) (.tmp 25) rfl w.heap.size fr0.cs rfl rfl 32 fr0.cs HW.out.zer (FR.fit fr0) rfl (FR.one fr0) ?_; have HW5 := Lib.hid (HW.out.row fr0); generalize W4.setRow w.heap.size fr0.cs = W5 at HW5 ⊢; have q0 := HW5.out.flt.cell 0; have q1 := HW5.out.flt.cell 1; have p0 := HW5.out.flt.free 0; have p1 := HW5.out.flt.free 1; simp only [List.getElem?_toArray, List.getElem?_cons_zero, List.getElem?_cons_succ] at q0 q1)
  have HE := Lib.hid (HW5.out.set 4 (n : Int))
  exact bodyPost_ret (v := .tuple #[.agg fr0.cs, .agg #[.int .i64 4, .int .i64 n]]) (read_results _ rfl rfl HE.out) rfl ⟨by rw [HF.out], HE.out.lo⟩

set_option maxHeartbeats 2000000 in
theorem read_long (A : Option Addr) (c : Nat) (bs : List Int) (w : World) (hA : Arr w (.slice A bs.length c) bs) (hby : ∀ v ∈ bs, 0 ≤ v ∧ v ≤ 255) (hf : (szP bs).2.1 = 0) (hs : (szP bs).1 < (bs.length : Int)) :
    Calls Try.prog 42 #[.slice A bs.length c] w (ReadsTo w bs) := by
  obtain ⟨n, hn⟩ : ∃ n, bs.length = n := ⟨_, rfl⟩
  obtain ⟨sz, hsz⟩ : ∃ sz, (szP bs).1 = sz := ⟨_, rfl⟩
  obtain ⟨er, her⟩ : ∃ er, (szP bs).2.1 = er := ⟨_, rfl⟩
  obtain ⟨i, hi⟩ : ∃ i, (szP bs).2.2 = i := ⟨_, rfl⟩
  have HC : Hid (∀ W, Below w.heap.size w W → Calls Try.prog 66 #[.slice A n c] W fun e w' => e = .returned (.tuple #[.int .i64 sz, .agg #[.int .i64 er, .int .i64 i]]) ∧ Below W.heap.size W w') := Lib.hid (fun W hb => by
    have h := size_any _ bs W (hA.below hb) hby
    rw [hsz, her, hi, hn] at h
    exact h)
  have HF : Hid (fread bs = (fr0, 5, (sz : Int))) := Lib.hid (by unfold fread; rw [if_neg (by omega), if_neg (by omega), if_pos hs, hsz])
  rw [hsz, hn] at hs
  rw [her] at hf
  subst hf
  rw [hn]
  clear hn hsz hi hA hby her
  obtain ⟨W2, hW2⟩ : ∃ W2, ((w.alloc (.cells #[.int .u64 0, .int .u64 0, .int .i64 0, .int .i64 0, .int .u64 0, .int .u32 0, .int .u64 0, .int .u32 0, .int .u32 0, .int .u32 0, .int .i64 0, .int .i64 0, .int .i64 0, .int .i64 0, .int .u64 0] 32)).alloc (.cells #[.int .i64 0, .int .i64 0] 37)) = W2 := ⟨_, rfl⟩
  have HW : Hid (RW w fr0 0 0 W2) := Lib.hid (hW2 ▸ RW.start w)
  go_enter Try.func42, Try.ntmps42
  go_wp2_with fail
  try rw [hW2]
  clear hW2
  refine (HC.out _ HW.out.lo).mono ?_
  rintro e w3 ⟨rfl, hb⟩
  have HV := Lib.hid (HW.out.below hb)
  clear hb HW
  have HW := HV
  clear HV
  obtain ⟨W4, hW4⟩ : ∃ W4, w3.alloc (.cells #[.int .i64 0, .int .i64 i] 37) = W4 := ⟨_, rfl⟩
  go_upto_region 2 with fail
  try rw [hW4]
  have HW4 : Hid (RW w fr0 0 0 W4) := Lib.hid (hW4 ▸ HW.out.below ((Below.refl _ w3).alloc (Nat.le_refl _) _))
  have HF4 : Hid (Has W4 w3.heap.size 37 #[.int .i64 0, .int .i64 i]) := Lib.hid (hW4 ▸ Has.new w3 _ _)
  clear hW4 HW
  have HW := HW4
  have c0 := HF4.out.cell 0
  simp only [List.getElem?_toArray, List.getElem?_cons_zero, List.getElem?_cons_succ] at c0
  clear HW4 HF4
  go_wp2_with (refine wpList_store_row rfl 32 (.tmp 2) (.tmp 34) rfl w.heap.size fr0.cs rfl rfl 32 fr0.cs HW.out.zer (FR.fit fr0) rfl (FR.one fr0) ?_; have HW5 := Lib.hid (HW.out.row fr0); generalize W4.setRow w.heap.size fr0.cs = W5 at HW5 ⊢; have q0 := HW5.out.flt.cell 0; have q1 := HW5.out.flt.cell 1; have p0 := HW5.out.flt.free 0; have p1 := HW5.out.flt.free 1; simp only [List.getElem?_toArray, List.getElem?_cons_zero, List.getElem?_cons_succ] at q0 q1)
  have HE := Lib.hid (HW5.out.set 5 sz)
  exact bodyPost_ret (v := .tuple #[.agg fr0.cs, .agg #[.int .i64 5, .int .i64 sz]]) (read_results _ rfl rfl HE.out) rfl ⟨by rw [HF.out], HE.out.lo⟩

theorem decode_any (v : Value) (bs : List Int) (w : World) (hA : Arr w v bs) (hby : ∀ v ∈ bs, 0 ≤ v ∧ v ≤ 255) (hf : (szP bs).2.1 = 0) (hs : (szP bs).1 = bs.length) :
    Calls Try.prog 67 #[v] w fun e w' => e = .returned (.agg (dcP bs).cs) ∧ Below w.heap.size w w' := by
  unfold szP at hf hs
  by_cases h1 : bs.length < 14
  · rw [if_pos h1] at hf; simp at hf
  rw [if_neg h1] at hf hs
  by_cases h2 : cod bs = 34997
  · rw [if_pos h2] at hs; exact dec_d v bs w hA (by simp at hs; omega) hby h2
  rw [if_neg h2] at hf hs
  by_cases h3 : cod bs = 2054
  · rw [if_pos h3] at hs; exact dec_a v bs w hA (by simp at hs; omega) hby h3
  rw [if_neg h3] at hf hs
  by_cases h4 : cod bs = 2048
  · rw [if_pos h4] at hf hs
    by_cases h5 : bs.length < 34
    · rw [if_pos h5] at hf; simp at hf
    rw [if_neg h5] at hf hs
    cases hp : pd (nm bs 23 1)
    · rw [hp] at hs; exact dec_hf v bs w hA (by simp at hs; omega) hby h4 hp
    · rw [hp] at hs; exact dec_ht v bs w hA (by simp at hs; omega) hby h4 hp
  rw [if_neg h4] at hf; simp at hf
theorem fenc_pos (x : FR) : 0 < (fenc x).length := by
  unfold fenc
  simp only [List.length_append, be_length]
  omega
theorem fenc_byte (x : FR) : ∀ v ∈ fenc x, 0 ≤ v ∧ v ≤ 255 := by
  intro v hv
  simp only [fenc, List.mem_append] at hv
  rcases hv with (((h | h) | h) | h) | h
  · exact be_byte _ _ _ h
  · exact be_byte _ _ _ h
  · exact be_byte _ _ _ h
  · unfold fbody at h
    split at h
    · simp only [bodyA, List.mem_append] at h
      rcases h with ((((h | h) | h) | h) | h) | h
      · simp only [List.mem_cons, List.not_mem_nil, or_false] at h; omega
      all_goals exact be_byte _ _ _ h
    split at h
    · unfold bodyH at h
      split at h
      · simp only [List.mem_append] at h
        rcases h with (((h | h) | h) | h) | h
        · exact hdr_byte _ _ _ h
        all_goals exact be_byte _ _ _ h
      · exact hdr_byte _ _ _ h
    · simp at h
  · exact be_byte _ _ _ h
theorem sz_pos {bs : List Int} (hf : (szP bs).2.1 = 0) (hs : (szP bs).1 = bs.length) : 0 < bs.length := by
  by_cases h : bs.length < 14
  · unfold szP at hf; rw [if_pos h] at hf; simp at hf
  · omega

set_option maxHeartbeats 2000000 in
theorem read_bad1 (A : Option Addr) (c : Nat) (bs : List Int) (w : World) (hA : Arr w (.slice A bs.length c) bs) (hby : ∀ v ∈ bs, 0 ≤ v ∧ v ≤ 255) (hf : (szP bs).2.1 = 0) (hs : (szP bs).1 = bs.length) (hc : fchk (dcP bs) ≠ 0) :
    Calls Try.prog 42 #[.slice A bs.length c] w (ReadsTo w bs) := by
  have HDc : Hid (∀ W, Below w.heap.size w W → Calls Try.prog 67 #[.slice A bs.length c] W fun e w' => e = .returned (.agg (dcP bs).cs) ∧ Below W.heap.size W w') := Lib.hid (fun W hb => decode_any _ bs W (hA.below hb) hby hf hs)
  have HPos := Lib.hid (sz_pos hf hs)
  have hty := dcP_ty hby
  have HBy := Lib.hid hby
  have HA := Lib.hid hA
  obtain ⟨n, hn⟩ : ∃ n, bs.length = n := ⟨_, rfl⟩
  obtain ⟨sz, hsz⟩ : ∃ sz, (szP bs).1 = sz := ⟨_, rfl⟩
  obtain ⟨er, her⟩ : ∃ er, (szP bs).2.1 = er := ⟨_, rfl⟩
  obtain ⟨i, hi⟩ : ∃ i, (szP bs).2.2 = i := ⟨_, rfl⟩
  have HC : Hid (∀ W, Below w.heap.size w W → Calls Try.prog 66 #[.slice A n c] W fun e w' => e = .returned (.tuple #[.int .i64 sz, .agg #[.int .i64 er, .int .i64 i]]) ∧ Below W.heap.size W w') := Lib.hid (fun W hb => by
    have h := size_any _ bs W (hA.below hb) hby
    rw [hsz, her, hi, hn] at h
    exact h)
  have HF : Hid (fread bs = (fr0, 3, 0)) := Lib.hid (by unfold fread; rw [if_neg (by omega), if_neg (by omega), if_neg (by omega), if_neg (fun h => hc h.1)])
  obtain ⟨x, hx⟩ : ∃ x, dcP bs = x := ⟨_, rfl⟩
  rw [hx] at HDc hty hc
  rw [hn] at HDc HA
  rw [hsz, hn] at hs
  rw [her] at hf
  subst hf hs
  rw [hn]
  have HLn := Lib.hid hn
  clear hn hsz hi hA hby her hx
  obtain ⟨ec, hec⟩ : ∃ ec, fchk x = ec := ⟨_, rfl⟩
  have HY : Hid (∀ W : World, Calls Try.prog 27 #[.agg #[.int .u64 x.s, .int .u64 x.d, .int .i64 x.k, .int .i64 x.op, .int .u64 x.sm, .int .u32 x.si, .int .u64 x.tm, .int .u32 x.ti, .int .u32 x.hs, .int .u32 x.hd, .int .i64 x.tl, .int .i64 x.pr, .int .i64 x.sp, .int .i64 x.dp, .int .u64 x.da]] W fun e w' => e = .returned (.tuple #[.slice none 0 0, .int .i64 ec]) ∧ Below W.heap.size W w') := Lib.hid (fun W => hec ▸ bytes_no x hty hc W)
  rw [hec] at hc
  have hne : (ec != 0) = true := by simpa using hc
  clear hec hc hty
  obtain ⟨W2, hW2⟩ : ∃ W2, ((w.alloc (.cells #[.int .u64 0, .int .u64 0, .int .i64 0, .int .i64 0, .int .u64 0, .int .u32 0, .int .u64 0, .int .u32 0, .int .u32 0, .int .u32 0, .int .i64 0, .int .i64 0, .int .i64 0, .int .i64 0, .int .u64 0] 32)).alloc (.cells #[.int .i64 0, .int .i64 0] 37)) = W2 := ⟨_, rfl⟩
  have HW : Hid (RW w fr0 0 0 W2) := Lib.hid (hW2 ▸ RW.start w)
  go_enter Try.func42, Try.ntmps42
  go_wp2_with fail
  try rw [hW2]
  clear hW2
  refine (HC.out _ HW.out.lo).mono ?_
  rintro e w3 ⟨rfl, hb⟩
  have HV := Lib.hid (HW.out.below hb)
  clear hb HW
  have HW := HV
  clear HV
  obtain ⟨W4, hW4⟩ : ∃ W4, w3.alloc (.cells #[.int .i64 0, .int .i64 i] 37) = W4 := ⟨_, rfl⟩
  go_upto_region 2 with fail
  try rw [hW4]
  have HW4 : Hid (RW w fr0 0 0 W4) := Lib.hid (hW4 ▸ HW.out.below ((Below.refl _ w3).alloc (Nat.le_refl _) _))
  have HF4 : Hid (Has W4 w3.heap.size 37 #[.int .i64 0, .int .i64 i]) := Lib.hid (hW4 ▸ Has.new w3 _ _)
  clear hW4 HW
  have HW := HW4
  have c0 := HF4.out.cell 0
  simp only [List.getElem?_toArray, List.getElem?_cons_zero, List.getElem?_cons_succ] at c0
  clear HW4 HF4
  go_wp2_with fail
  refine (HDc.out _ HW.out.lo).mono ?_
  rintro e w5 ⟨rfl, hb⟩
  have HW5 := Lib.hid (HW.out.below hb)
  clear hb c0 HW
  rw [show x.cs = #[.int .u64 x.s, .int .u64 x.d, .int .i64 x.k, .int .i64 x.op, .int .u64 x.sm, .int .u32 x.si, .int .u64 x.tm, .int .u32 x.ti, .int .u32 x.hs, .int .u32 x.hd, .int .i64 x.tl, .int .i64 x.pr, .int .i64 x.sp, .int .i64 x.dp, .int .u64 x.da] from rfl]
  have HW6 : Hid (RW w fr0 0 0 (w5.alloc (.cells #[.int .u64 x.s, .int .u64 x.d, .int .i64 x.k, .int .i64 x.op, .int .u64 x.sm, .int .u32 x.si, .int .u64 x.tm, .int .u32 x.ti, .int .u32 x.hs, .int .u32 x.hd, .int .i64 x.tl, .int .i64 x.pr, .int .i64 x.sp, .int .i64 x.dp, .int .u64 x.da] 32))) := Lib.hid (HW5.out.below ((Below.refl _ w5).alloc (Nat.le_refl _) _))
  have HB6 : Hid (Has (w5.alloc (.cells #[.int .u64 x.s, .int .u64 x.d, .int .i64 x.k, .int .i64 x.op, .int .u64 x.sm, .int .u32 x.si, .int .u64 x.tm, .int .u32 x.ti, .int .u32 x.hs, .int .u32 x.hd, .int .i64 x.tl, .int .i64 x.pr, .int .i64 x.sp, .int .i64 x.dp, .int .u64 x.da] 32)) w5.heap.size 32 x.cs) := Lib.hid (Has.new w5 _ _)
  have HLt : Hid (w.heap.size + 1 < w5.heap.size) := Lib.hid HW5.out.flt.lt
  clear HW5
  go_wp2_with fail
  refine (HY.out _).mono ?_
  rintro e w7 ⟨rfl, hb⟩
  have HW := Lib.hid (HW6.out.below hb)
  have HB := Lib.hid (HB6.out.below hb)
  clear hb HW6 HB6
  go_wp2_with (first | (refine wpList_store_row rfl 32 (.tmp 2) (.tmp 52) rfl w.heap.size fr0.cs rfl rfl 32 fr0.cs HW.out.zer (FR.fit fr0) rfl (FR.one fr0) ?_; have HW5 := Lib.hid (HW.out.row fr0); generalize w7.setRow w.heap.size fr0.cs = W5 at HW5 ⊢; have q0 := HW5.out.flt.cell 0; have q1 := HW5.out.flt.cell 1; have p0 := HW5.out.flt.free 0; have p1 := HW5.out.flt.free 1; simp only [List.getElem?_toArray, List.getElem?_cons_zero, List.getElem?_cons_succ] at q0 q1))
  have HE := Lib.hid (HW5.out.set 3 0)
  exact bodyPost_ret (v := .tuple #[.agg fr0.cs, .agg #[.int .i64 3, .int .i64 0]]) (read_results _ rfl rfl HE.out) rfl ⟨by rw [HF.out], HE.out.lo⟩

set_option maxHeartbeats 2000000 in
theorem read_bad2 (A : Option Addr) (c : Nat) (bs : List Int) (w : World) (hA : Arr w (.slice A bs.length c) bs) (hby : ∀ v ∈ bs, 0 ≤ v ∧ v ≤ 255) (hf : (szP bs).2.1 = 0) (hs : (szP bs).1 = bs.length) (hc : fchk (dcP bs) = 0) (hq : fenc (dcP bs) ≠ bs) :
    Calls Try.prog 42 #[.slice A bs.length c] w (ReadsTo w bs) := by
  have HDc : Hid (∀ W, Below w.heap.size w W → Calls Try.prog 67 #[.slice A bs.length c] W fun e w' => e = .returned (.agg (dcP bs).cs) ∧ Below W.heap.size W w') := Lib.hid (fun W hb => decode_any _ bs W (hA.below hb) hby hf hs)
  have HPos := Lib.hid (sz_pos hf hs)
  have hty := dcP_ty hby
  have HBy := Lib.hid hby
  have HA := Lib.hid hA
  obtain ⟨n, hn⟩ : ∃ n, bs.length = n := ⟨_, rfl⟩
  obtain ⟨sz, hsz⟩ : ∃ sz, (szP bs).1 = sz := ⟨_, rfl⟩
  obtain ⟨er, her⟩ : ∃ er, (szP bs).2.1 = er := ⟨_, rfl⟩
  obtain ⟨i, hi⟩ : ∃ i, (szP bs).2.2 = i := ⟨_, rfl⟩
  have HC : Hid (∀ W, Below w.heap.size w W → Calls Try.prog 66 #[.slice A n c] W fun e w' => e = .returned (.tuple #[.int .i64 sz, .agg #[.int .i64 er, .int .i64 i]]) ∧ Below W.heap.size W w') := Lib.hid (fun W hb => by
    have h := size_any _ bs W (hA.below hb) hby
    rw [hsz, her, hi, hn] at h
    exact h)
  have HF : Hid (fread bs = (fr0, 3, 0)) := Lib.hid (by unfold fread; rw [if_neg (by omega), if_neg (by omega), if_neg (by omega), if_neg (fun h => hq h.2)])
  obtain ⟨x, hx⟩ : ∃ x, dcP bs = x := ⟨_, rfl⟩
  rw [hx] at HDc hty hc hq
  rw [hn] at HDc HA
  rw [hsz, hn] at hs
  rw [her] at hf
  subst hf hs
  rw [hn]
  have HLn := Lib.hid hn
  clear hn hsz hi hA hby her hx
  obtain ⟨m, hm⟩ : ∃ m, (fenc x).length = m := ⟨_, rfl⟩
  have HY : Hid (∀ W : World, Calls Try.prog 27 #[.agg #[.int .u64 x.s, .int .u64 x.d, .int .i64 x.k, .int .i64 x.op, .int .u64 x.sm, .int .u32 x.si, .int .u64 x.tm, .int .u32 x.ti, .int .u32 x.hs, .int .u32 x.hd, .int .i64 x.tl, .int .i64 x.pr, .int .i64 x.sp, .int .i64 x.dp, .int .u64 x.da]] W fun e w' => ∃ b c, e = .returned (.tuple #[.slice (some ⟨b, 0, none⟩) m c, .int .i64 0]) ∧ Row w' b c (fenc x) ∧ W.heap.size ≤ b ∧ Below W.heap.size W w') := Lib.hid (fun W => hm ▸ bytes_yes x hty hc W)
  have HM := Lib.hid hm
  have HQ := Lib.hid hq
  clear hm hq hc hty
  obtain ⟨W2, hW2⟩ : ∃ W2, ((w.alloc (.cells #[.int .u64 0, .int .u64 0, .int .i64 0, .int .i64 0, .int .u64 0, .int .u32 0, .int .u64 0, .int .u32 0, .int .u32 0, .int .u32 0, .int .i64 0, .int .i64 0, .int .i64 0, .int .i64 0, .int .u64 0] 32)).alloc (.cells #[.int .i64 0, .int .i64 0] 37)) = W2 := ⟨_, rfl⟩
  have HW : Hid (RW w fr0 0 0 W2) := Lib.hid (hW2 ▸ RW.start w)
  go_enter Try.func42, Try.ntmps42
  go_wp2_with fail
  try rw [hW2]
  clear hW2
  refine (HC.out _ HW.out.lo).mono ?_
  rintro e w3 ⟨rfl, hb⟩
  have HV := Lib.hid (HW.out.below hb)
  clear hb HW
  have HW := HV
  clear HV
  obtain ⟨W4, hW4⟩ : ∃ W4, w3.alloc (.cells #[.int .i64 0, .int .i64 i] 37) = W4 := ⟨_, rfl⟩
  go_upto_region 2 with fail
  try rw [hW4]
  have HW4 : Hid (RW w fr0 0 0 W4) := Lib.hid (hW4 ▸ HW.out.below ((Below.refl _ w3).alloc (Nat.le_refl _) _))
  have HF4 : Hid (Has W4 w3.heap.size 37 #[.int .i64 0, .int .i64 i]) := Lib.hid (hW4 ▸ Has.new w3 _ _)
  clear hW4 HW
  have HW := HW4
  have c0 := HF4.out.cell 0
  simp only [List.getElem?_toArray, List.getElem?_cons_zero, List.getElem?_cons_succ] at c0
  clear HW4 HF4
  go_wp2_with fail
  refine (HDc.out _ HW.out.lo).mono ?_
  rintro e w5 ⟨rfl, hb⟩
  have HW5 := Lib.hid (HW.out.below hb)
  clear hb c0 HW
  rw [show x.cs = #[.int .u64 x.s, .int .u64 x.d, .int .i64 x.k, .int .i64 x.op, .int .u64 x.sm, .int .u32 x.si, .int .u64 x.tm, .int .u32 x.ti, .int .u32 x.hs, .int .u32 x.hd, .int .i64 x.tl, .int .i64 x.pr, .int .i64 x.sp, .int .i64 x.dp, .int .u64 x.da] from rfl]
  have HW6 : Hid (RW w fr0 0 0 (w5.alloc (.cells #[.int .u64 x.s, .int .u64 x.d, .int .i64 x.k, .int .i64 x.op, .int .u64 x.sm, .int .u32 x.si, .int .u64 x.tm, .int .u32 x.ti, .int .u32 x.hs, .int .u32 x.hd, .int .i64 x.tl, .int .i64 x.pr, .int .i64 x.sp, .int .i64 x.dp, .int .u64 x.da] 32))) := Lib.hid (HW5.out.below ((Below.refl _ w5).alloc (Nat.le_refl _) _))
  have HB6 : Hid (Has (w5.alloc (.cells #[.int .u64 x.s, .int .u64 x.d, .int .i64 x.k, .int .i64 x.op, .int .u64 x.sm, .int .u32 x.si, .int .u64 x.tm, .int .u32 x.ti, .int .u32 x.hs, .int .u32 x.hd, .int .i64 x.tl, .int .i64 x.pr, .int .i64 x.sp, .int .i64 x.dp, .int .u64 x.da] 32)) w5.heap.size 32 x.cs) := Lib.hid (Has.new w5 _ _)
  have HLt : Hid (w.heap.size + 1 < w5.heap.size) := Lib.hid HW5.out.flt.lt
  clear HW5
  go_wp2_with fail
  refine (HY.out _).mono ?_
  rintro e w7 ⟨b7, c7, rfl, hrow, hsz7, hb⟩
  have HR7 := Lib.hid hrow
  clear hrow hsz7
  have HW := Lib.hid (HW6.out.below hb)
  have HB := Lib.hid (HB6.out.below hb)
  clear hb HW6 HB6
  have HEq : Hid (∀ W, W = w7 → Calls Try.prog 26 #[.slice (some ⟨b7, 0, none⟩) m c7, .slice A n c] W fun e w' => e = .returned (.bool false) ∧ W = w') := Lib.hid (fun W hW => by
    subst hW
    have h := equal_any (.slice (some ⟨b7, 0, none⟩) m c7) (.slice A n c) (fenc x) bs W (row_arr HR7.out HM.out) (HA.out.below HW.out.lo) (fenc_pos x) HPos.out (fenc_byte x) HBy.out
    rw [decide_eq_false HQ.out] at h
    exact h)
  go_wp2_with (first | (go_at_call 26; refine (HEq.out _ rfl).mono ?_; rintro e w8 ⟨rfl, rfl⟩) | (refine wpList_store_row rfl 32 (.tmp 2) (.tmp 52) rfl w.heap.size fr0.cs rfl rfl 32 fr0.cs HW.out.zer (FR.fit fr0) rfl (FR.one fr0) ?_; have HW5 := Lib.hid (HW.out.row fr0); generalize w7.setRow w.heap.size fr0.cs = W5 at HW5 ⊢; have q0 := HW5.out.flt.cell 0; have q1 := HW5.out.flt.cell 1; have p0 := HW5.out.flt.free 0; have p1 := HW5.out.flt.free 1; simp only [List.getElem?_toArray, List.getElem?_cons_zero, List.getElem?_cons_succ] at q0 q1))
  have HE := Lib.hid (HW5.out.set 3 0)
  exact bodyPost_ret (v := .tuple #[.agg fr0.cs, .agg #[.int .i64 3, .int .i64 0]]) (read_results _ rfl rfl HE.out) rfl ⟨by rw [HF.out], HE.out.lo⟩

set_option maxHeartbeats 2000000 in
theorem read_ok (A : Option Addr) (c : Nat) (bs : List Int) (w : World) (hA : Arr w (.slice A bs.length c) bs) (hby : ∀ v ∈ bs, 0 ≤ v ∧ v ≤ 255) (hf : (szP bs).2.1 = 0) (hs : (szP bs).1 = bs.length) (hc : fchk (dcP bs) = 0) (hq : fenc (dcP bs) = bs) :
    Calls Try.prog 42 #[.slice A bs.length c] w (ReadsTo w bs) := by
  have HDc : Hid (∀ W, Below w.heap.size w W → Calls Try.prog 67 #[.slice A bs.length c] W fun e w' => e = .returned (.agg (dcP bs).cs) ∧ Below W.heap.size W w') := Lib.hid (fun W hb => decode_any _ bs W (hA.below hb) hby hf hs)
  have HPos := Lib.hid (sz_pos hf hs)
  have hty := dcP_ty hby
  have HBy := Lib.hid hby
  have HA := Lib.hid hA
  obtain ⟨n, hn⟩ : ∃ n, bs.length = n := ⟨_, rfl⟩
  obtain ⟨sz, hsz⟩ : ∃ sz, (szP bs).1 = sz := ⟨_, rfl⟩
  obtain ⟨er, her⟩ : ∃ er, (szP bs).2.1 = er := ⟨_, rfl⟩
  obtain ⟨i, hi⟩ : ∃ i, (szP bs).2.2 = i := ⟨_, rfl⟩
  have HC : Hid (∀ W, Below w.heap.size w W → Calls Try.prog 66 #[.slice A n c] W fun e w' => e = .returned (.tuple #[.int .i64 sz, .agg #[.int .i64 er, .int .i64 i]]) ∧ Below W.heap.size W w') := Lib.hid (fun W hb => by
    have h := size_any _ bs W (hA.below hb) hby
    rw [hsz, her, hi, hn] at h
    exact h)
  have HF : Hid (fread bs = (dcP bs, 0, 0)) := Lib.hid (by unfold fread; rw [if_neg (by omega), if_neg (by omega), if_neg (by omega), if_pos ⟨hc, hq⟩])
  obtain ⟨x, hx⟩ : ∃ x, dcP bs = x := ⟨_, rfl⟩
  rw [hx] at HDc hty hc hq HF
  rw [hn] at HDc HA
  rw [hsz, hn] at hs
  rw [her] at hf
  subst hf hs
  rw [hn]
  have HLn := Lib.hid hn
  clear hn hsz hi hA hby her hx
  obtain ⟨m, hm⟩ : ∃ m, (fenc x).length = m := ⟨_, rfl⟩
  have HY : Hid (∀ W : World, Calls Try.prog 27 #[.agg #[.int .u64 x.s, .int .u64 x.d, .int .i64 x.k, .int .i64 x.op, .int .u64 x.sm, .int .u32 x.si, .int .u64 x.tm, .int .u32 x.ti, .int .u32 x.hs, .int .u32 x.hd, .int .i64 x.tl, .int .i64 x.pr, .int .i64 x.sp, .int .i64 x.dp, .int .u64 x.da]] W fun e w' => ∃ b c, e = .returned (.tuple #[.slice (some ⟨b, 0, none⟩) m c, .int .i64 0]) ∧ Row w' b c (fenc x) ∧ W.heap.size ≤ b ∧ Below W.heap.size W w') := Lib.hid (fun W => hm ▸ bytes_yes x hty hc W)
  have HM := Lib.hid hm
  have HQ := Lib.hid hq
  clear hm hq hc hty
  obtain ⟨W2, hW2⟩ : ∃ W2, ((w.alloc (.cells #[.int .u64 0, .int .u64 0, .int .i64 0, .int .i64 0, .int .u64 0, .int .u32 0, .int .u64 0, .int .u32 0, .int .u32 0, .int .u32 0, .int .i64 0, .int .i64 0, .int .i64 0, .int .i64 0, .int .u64 0] 32)).alloc (.cells #[.int .i64 0, .int .i64 0] 37)) = W2 := ⟨_, rfl⟩
  have HW : Hid (RW w fr0 0 0 W2) := Lib.hid (hW2 ▸ RW.start w)
  go_enter Try.func42, Try.ntmps42
  go_wp2_with fail
  try rw [hW2]
  clear hW2
  refine (HC.out _ HW.out.lo).mono ?_
  rintro e w3 ⟨rfl, hb⟩
  have HV := Lib.hid (HW.out.below hb)
  clear hb HW
  have HW := HV
  clear HV
  obtain ⟨W4, hW4⟩ : ∃ W4, w3.alloc (.cells #[.int .i64 0, .int .i64 i] 37) = W4 := ⟨_, rfl⟩
  go_upto_region 2 with fail
  try rw [hW4]
  have HW4 : Hid (RW w fr0 0 0 W4) := Lib.hid (hW4 ▸ HW.out.below ((Below.refl _ w3).alloc (Nat.le_refl _) _))
  have HF4 : Hid (Has W4 w3.heap.size 37 #[.int .i64 0, .int .i64 i]) := Lib.hid (hW4 ▸ Has.new w3 _ _)
  clear hW4 HW
  have HW := HW4
  have c0 := HF4.out.cell 0
  simp only [List.getElem?_toArray, List.getElem?_cons_zero, List.getElem?_cons_succ] at c0
  clear HW4 HF4
  go_wp2_with fail
  refine (HDc.out _ HW.out.lo).mono ?_
  rintro e w5 ⟨rfl, hb⟩
  have HW5 := Lib.hid (HW.out.below hb)
  clear hb c0 HW
  rw [show x.cs = #[.int .u64 x.s, .int .u64 x.d, .int .i64 x.k, .int .i64 x.op, .int .u64 x.sm, .int .u32 x.si, .int .u64 x.tm, .int .u32 x.ti, .int .u32 x.hs, .int .u32 x.hd, .int .i64 x.tl, .int .i64 x.pr, .int .i64 x.sp, .int .i64 x.dp, .int .u64 x.da] from rfl]
  have HW6 : Hid (RW w fr0 0 0 (w5.alloc (.cells #[.int .u64 x.s, .int .u64 x.d, .int .i64 x.k, .int .i64 x.op, .int .u64 x.sm, .int .u32 x.si, .int .u64 x.tm, .int .u32 x.ti, .int .u32 x.hs, .int .u32 x.hd, .int .i64 x.tl, .int .i64 x.pr, .int .i64 x.sp, .int .i64 x.dp, .int .u64 x.da] 32))) := Lib.hid (HW5.out.below ((Below.refl _ w5).alloc (Nat.le_refl _) _))
  have HB6 : Hid (Has (w5.alloc (.cells #[.int .u64 x.s, .int .u64 x.d, .int .i64 x.k, .int .i64 x.op, .int .u64 x.sm, .int .u32 x.si, .int .u64 x.tm, .int .u32 x.ti, .int .u32 x.hs, .int .u32 x.hd, .int .i64 x.tl, .int .i64 x.pr, .int .i64 x.sp, .int .i64 x.dp, .int .u64 x.da] 32)) w5.heap.size 32 x.cs) := Lib.hid (Has.new w5 _ _)
  have HLt : Hid (w.heap.size + 1 < w5.heap.size) := Lib.hid HW5.out.flt.lt
  clear HW5
  go_wp2_with fail
  refine (HY.out _).mono ?_
  rintro e w7 ⟨b7, c7, rfl, hrow, hsz7, hb⟩
  have HR7 := Lib.hid hrow
  clear hrow hsz7
  have HW := Lib.hid (HW6.out.below hb)
  have HB := Lib.hid (HB6.out.below hb)
  clear hb HW6 HB6
  have HEq : Hid (∀ W, W = w7 → Calls Try.prog 26 #[.slice (some ⟨b7, 0, none⟩) m c7, .slice A n c] W fun e w' => e = .returned (.bool true) ∧ W = w') := Lib.hid (fun W hW => by
    subst hW
    have h := equal_any (.slice (some ⟨b7, 0, none⟩) m c7) (.slice A n c) (fenc x) bs W (row_arr HR7.out HM.out) (HA.out.below HW.out.lo) (fenc_pos x) HPos.out (fenc_byte x) HBy.out
    rw [decide_eq_true HQ.out] at h
    exact h)
  go_wp2_with (first | (go_at_call 26; refine (HEq.out _ rfl).mono ?_; rintro e w8 ⟨rfl, rfl⟩) | (refine wpList_load_row rfl 32 (.tmp 6) rfl w5.heap.size rfl 32 x.cs (0, 0) _ HB.out Try.underlying32 rfl x.fit ?_) | (refine wpList_store_row rfl 32 (.tmp 2) (.tmp 54) rfl w.heap.size x.cs rfl rfl 32 fr0.cs HW.out.zer (FR.fit x) rfl (FR.one x) ?_; have HW5 := Lib.hid (HW.out.row x); generalize w7.setRow w.heap.size x.cs = W5 at HW5 ⊢; have q0 := HW5.out.flt.cell 0; have q1 := HW5.out.flt.cell 1; have p0 := HW5.out.flt.free 0; have p1 := HW5.out.flt.free 1; simp only [List.getElem?_toArray, List.getElem?_cons_zero, List.getElem?_cons_succ] at q0 q1))
  have HE := Lib.hid (HW5.out.set 0 0)
  exact bodyPost_ret (v := .tuple #[.agg x.cs, .agg #[.int .i64 0, .int .i64 0]]) (read_results _ rfl rfl HE.out) rfl ⟨by rw [HF.out], HE.out.lo⟩

/-- **Read, of whatever slice.** -/
theorem read_any (v : Value) (bs : List Int) (w : World) (hA : Arr w v bs) (hby : ∀ v ∈ bs, 0 ≤ v ∧ v ≤ 255) : Calls Try.prog 42 #[v] w (ReadsTo w bs) := by
  obtain ⟨A, c, rfl⟩ := hA.form
  by_cases hf : (szP bs).2.1 = 0
  · by_cases h1 : (bs.length : Int) < (szP bs).1
    · exact read_short A c bs w hA hby hf h1
    by_cases h2 : (szP bs).1 < (bs.length : Int)
    · exact read_long A c bs w hA hby hf h2
    have hs : (szP bs).1 = bs.length := by omega
    by_cases hc : fchk (dcP bs) = 0
    · by_cases hq : fenc (dcP bs) = bs
      · exact read_ok A c bs w hA hby hf hs hc hq
      · exact read_bad2 A c bs w hA hby hf hs hc hq
    · exact read_bad1 A c bs w hA hby hf hs hc
  · exact read_fault A c bs w hA hby hf

end Go.Proofs.Ytgdfpmnbofnjfaa

namespace Go.Proofs.Ytgdfpmnbofnjfaa
open Go.RowKit Go.Shelf
set_option linter.unusedVariables false
set_option linter.unusedSimpArgs false
set_option maxRecDepth 100000

/-- Numbers, one behind the other. -/
def flat : List (Int × Nat) → List Int
  | [] => []
  | (v, k) :: r => be v k ++ flat r
def tot : List (Int × Nat) → Nat
  | [] => 0
  | (_, k) :: r => k + tot r
theorem flat_len : ∀ l : List (Int × Nat), (flat l).length = tot l
  | [] => rfl
  | (v, k) :: r => by rw [flat, tot, List.length_append, be_length, flat_len r]
theorem flat_app : ∀ (a b : List (Int × Nat)), flat (a ++ b) = flat a ++ flat b
  | [], b => rfl
  | (v, k) :: r, b => by rw [List.cons_append, flat, flat, flat_app r b, List.append_assoc]
theorem nm_seg (a : List (Int × Nat)) (v : Int) (k : Nat) (b : List (Int × Nat)) (h0 : 0 ≤ v) (h1 : v < 256 ^ k) : nm (flat (a ++ (v, k) :: b)) (tot a) k = v := by
  unfold nm
  rw [flat_app, List.drop_left' (flat_len a), flat, List.take_left' (be_length v k)]
  exact num_be_fit v k h0 h1
theorem part_seg (a b c : List (Int × Nat)) : ((flat (a ++ (b ++ c))).drop (tot a)).take (tot b) = flat b := by
  rw [flat_app, flat_app, List.drop_left' (flat_len a), List.take_left' (flat_len b)]

def segD (x : FR) : List (Int × Nat) := [(x.d, 6), (x.s, 6), (34997, 2), (x.da, 8)]
def segA (x : FR) : List (Int × Nat) := [(x.d, 6), (x.s, 6), (2054, 2), (4429186564, 6), (x.op, 2), (x.sm, 6), (x.si, 4), (x.tm, 6), (x.ti, 4), (x.da, 8)]
def segH (x : FR) (sm : Int) : List (Int × Nat) := [(17664, 2), (hsz x, 2), (0, 4), (x.tl, 1), (x.pr, 1), (sm, 2), (x.hs, 4), (x.hd, 4)]
def segF (x : FR) (sm : Int) : List (Int × Nat) := [(x.d, 6), (x.s, 6), (2048, 2)] ++ (segH x sm ++ [(x.da, 8)])
def segT (x : FR) (sm : Int) : List (Int × Nat) := [(x.d, 6), (x.s, 6), (2048, 2)] ++ (segH x sm ++ [(x.sp, 2), (x.dp, 2), (16, 2), (0, 2), (x.da, 8)])
theorem hdr_seg (x : FR) (sm : Int) : hdr x sm = flat (segH x sm) := by
  simp only [hdr, segH, flat, List.append_nil, List.append_assoc]
theorem enc_d {x : FR} (hk : x.k = 0) : fenc x = flat (segD x) := by
  simp only [fenc, fbody, fcode, hk, segD, flat, List.append_nil, List.append_assoc]
  rfl
theorem enc_a {x : FR} (hk : x.k = 1) : fenc x = flat (segA x) := by
  have h : ([0, 1, 8, 0, 6, 4] : List Int) = be 4429186564 6 := by decide
  unfold fenc fbody fcode
  rw [if_pos hk, if_pos hk]
  simp only [bodyA, segA, flat, List.append_nil, List.append_assoc, h]
theorem enc_t {x : FR} (hk : x.k = 2) (hp : pd x.pr = true) : fenc x = flat (segT x (sumP (hdr x 0))) := by
  unfold fenc fbody fcode bodyH hdrS
  rw [if_neg (by omega), if_pos hk, if_neg (by omega), if_pos hk, if_pos hp, hdr_seg x (sumP (hdr x 0)), segT, flat_app, flat_app]
  simp only [flat, List.append_nil, List.append_assoc]
theorem enc_f {x : FR} (hk : x.k = 2) (hp : pd x.pr = false) : fenc x = flat (segF x (sumP (hdr x 0))) := by
  unfold fenc fbody fcode bodyH hdrS
  rw [if_neg (by omega), if_pos hk, if_neg (by omega), if_pos hk, if_neg (by rw [hp]; decide), hdr_seg x (sumP (hdr x 0)), segF, flat_app, flat_app]
  simp only [flat, List.append_nil, List.append_assoc]

theorem sameA_zero {x : FR} (h : x.sameA fr0 = true) : x.op = 0 ∧ x.sm = 0 ∧ x.si = 0 ∧ x.tm = 0 ∧ x.ti = 0 := by
  simpa [FR.sameA, fr0, and_assoc] using h
theorem sameH_zero {x : FR} (h : x.sameH fr0 = true) : x.hs = 0 ∧ x.hd = 0 ∧ x.tl = 0 ∧ x.pr = 0 ∧ x.sp = 0 ∧ x.dp = 0 := by
  simpa [FR.sameH, fr0, and_assoc] using h
theorem perr_zero {x : FR} (h : perr x = 0) : (x.k ≠ 1 → x.sameA fr0 = true) ∧ (x.k ≠ 2 → x.sameH fr0 = true) := by
  have hk := perr_k h
  unfold perr at h
  rw [if_neg (by omega)] at h
  split at h
  · omega
  rename_i h2
  refine ⟨fun h1 => ?_, fun h1 => ?_⟩
  · cases h3 : x.sameA fr0
    · exact absurd (.inl ⟨h1, h3⟩) h2
    · rfl
  · cases h3 : x.sameH fr0
    · exact absurd (.inr ⟨h1, h3⟩) h2
    · rfl

/-- **What is read of an encoded frame is that frame.** -/
theorem fread_enc {x : FR} (hx : x.ty) (hc : fchk x = 0) : fread (fenc x) = (x, 0, 0) := by
  obtain ⟨hs1, hd1, _, hpe, h1, h2⟩ := fchk_zero hc
  obtain ⟨hzA, hzH⟩ := perr_zero hpe
  have hs0 := hx.s.1
  have hd0 := hx.d.1
  obtain ⟨hda0, hda1⟩ := hx.da
  have key : szP (fenc x) = (((fenc x).length : Int), 0, 0) ∧ dcP (fenc x) = x := by
    rcases perr_k hpe with hk | hk | hk
    · have hE := enc_d hk
      have hl : (fenc x).length = 22 := by rw [hE, flat_len]; rfl
      have hcod : cod (fenc x) = 34997 := by rw [hE]; exact nm_seg [(x.d, 6), (x.s, 6)] 34997 2 [(x.da, 8)] (by omega) (by omega)
      refine ⟨by unfold szP; rw [if_neg (by omega), if_pos hcod, hl]; rfl, ?_⟩
      have e1 : nm (fenc x) 0 6 = x.d := by rw [hE]; exact nm_seg [] x.d 6 [(x.s, 6), (34997, 2), (x.da, 8)] (by omega) (by omega)
      have e2 : nm (fenc x) 6 6 = x.s := by rw [hE]; exact nm_seg [(x.d, 6)] x.s 6 [(34997, 2), (x.da, 8)] (by omega) (by omega)
      have e3 : nm (fenc x) 14 8 = x.da := by rw [hE]; exact nm_seg [(x.d, 6), (x.s, 6), (34997, 2)] x.da 8 [] (by omega) (by omega)
      obtain ⟨z1, z2, z3, z4, z5⟩ := sameA_zero (hzA (by omega))
      obtain ⟨z6, z7, z8, z9, z10, z11⟩ := sameH_zero (hzH (by omega))
      unfold dcP
      rw [if_neg (by omega), if_neg (by omega)]
      unfold dDF
      rw [e1, e2, e3]
      cases x
      simp_all
    · have hE := enc_a hk
      have hl : (fenc x).length = 50 := by rw [hE, flat_len]; rfl
      obtain ⟨⟨hop0, hop1⟩, ⟨hsm0, hsm1⟩, ⟨hsi0, hsi1⟩, ⟨htm0, htm1⟩, ⟨hti0, hti1⟩⟩ := hx.okA (h1 hk)
      have hcod : cod (fenc x) = 2054 := by rw [hE]; exact nm_seg [(x.d, 6), (x.s, 6)] 2054 2 [(4429186564, 6), (x.op, 2), (x.sm, 6), (x.si, 4), (x.tm, 6), (x.ti, 4), (x.da, 8)] (by omega) (by omega)
      refine ⟨by unfold szP; rw [if_neg (by omega), if_neg (by omega), if_pos hcod, hl]; rfl, ?_⟩
      have e1 : nm (fenc x) 0 6 = x.d := by rw [hE]; exact nm_seg [] x.d 6 [(x.s, 6), (2054, 2), (4429186564, 6), (x.op, 2), (x.sm, 6), (x.si, 4), (x.tm, 6), (x.ti, 4), (x.da, 8)] (by omega) (by omega)
      have e2 : nm (fenc x) 6 6 = x.s := by rw [hE]; exact nm_seg [(x.d, 6)] x.s 6 [(2054, 2), (4429186564, 6), (x.op, 2), (x.sm, 6), (x.si, 4), (x.tm, 6), (x.ti, 4), (x.da, 8)] (by omega) (by omega)
      have e3 : nm (fenc x) 20 2 = x.op := by rw [hE]; exact nm_seg [(x.d, 6), (x.s, 6), (2054, 2), (4429186564, 6)] x.op 2 [(x.sm, 6), (x.si, 4), (x.tm, 6), (x.ti, 4), (x.da, 8)] (by omega) (by omega)
      have e4 : nm (fenc x) 22 6 = x.sm := by rw [hE]; exact nm_seg [(x.d, 6), (x.s, 6), (2054, 2), (4429186564, 6), (x.op, 2)] x.sm 6 [(x.si, 4), (x.tm, 6), (x.ti, 4), (x.da, 8)] (by omega) (by omega)
      have e5 : nm (fenc x) 28 4 = x.si := by rw [hE]; exact nm_seg [(x.d, 6), (x.s, 6), (2054, 2), (4429186564, 6), (x.op, 2), (x.sm, 6)] x.si 4 [(x.tm, 6), (x.ti, 4), (x.da, 8)] (by omega) (by omega)
      have e6 : nm (fenc x) 32 6 = x.tm := by rw [hE]; exact nm_seg [(x.d, 6), (x.s, 6), (2054, 2), (4429186564, 6), (x.op, 2), (x.sm, 6), (x.si, 4)] x.tm 6 [(x.ti, 4), (x.da, 8)] (by omega) (by omega)
      have e7 : nm (fenc x) 38 4 = x.ti := by rw [hE]; exact nm_seg [(x.d, 6), (x.s, 6), (2054, 2), (4429186564, 6), (x.op, 2), (x.sm, 6), (x.si, 4), (x.tm, 6)] x.ti 4 [(x.da, 8)] (by omega) (by omega)
      have e8 : nm (fenc x) 42 8 = x.da := by rw [hE]; exact nm_seg [(x.d, 6), (x.s, 6), (2054, 2), (4429186564, 6), (x.op, 2), (x.sm, 6), (x.si, 4), (x.tm, 6), (x.ti, 4)] x.da 8 [] (by omega) (by omega)
      obtain ⟨z6, z7, z8, z9, z10, z11⟩ := sameH_zero (hzH (by omega))
      unfold dcP
      rw [if_pos hcod]
      unfold dAF
      rw [e1, e2, e3, e4, e5, e6, e7, e8]
      cases x
      simp_all
    · obtain ⟨⟨hhs0, hhs1⟩, ⟨hhd0, hhd1⟩, ⟨htl0, htl1⟩, ⟨hpr0, hpr1⟩, ⟨hsp0, hsp1⟩, ⟨hdp0, hdp1⟩⟩ := hx.okH (h2 hk)
      have hz := (ackH_zero (h2 hk)).2
      obtain ⟨z1, z2, z3, z4, z5⟩ := sameA_zero (hzA (by omega))
      have hsm := sumP_le (hdr x 0) (hdr_byte x 0)
      cases hp : pd x.pr
      · have hE := enc_f hk hp
        obtain ⟨sm, hsme⟩ : ∃ sm, sumP (hdr x 0) = sm := ⟨_, rfl⟩
        rw [hsme] at hE
        have hl : (fenc x).length = 42 := by rw [hE, flat_len]; rfl
        have hcod : cod (fenc x) = 2048 := by rw [hE]; exact nm_seg [(x.d, 6), (x.s, 6)] 2048 2 (segH x sm ++ [(x.da, 8)]) (by omega) (by omega)
        have e1 : nm (fenc x) 0 6 = x.d := by rw [hE]; exact nm_seg [] x.d 6 ([(x.s, 6), (2048, 2)] ++ (segH x sm ++ [(x.da, 8)])) (by omega) (by omega)
        have e2 : nm (fenc x) 6 6 = x.s := by rw [hE]; exact nm_seg [(x.d, 6)] x.s 6 ([(2048, 2)] ++ (segH x sm ++ [(x.da, 8)])) (by omega) (by omega)
        have e3 : nm (fenc x) 22 1 = x.tl := by rw [hE]; exact nm_seg [(x.d, 6), (x.s, 6), (2048, 2), (17664, 2), (hsz x, 2), (0, 4)] x.tl 1 [(x.pr, 1), (sm, 2), (x.hs, 4), (x.hd, 4), (x.da, 8)] (by omega) (by omega)
        have e4 : nm (fenc x) 23 1 = x.pr := by rw [hE]; exact nm_seg [(x.d, 6), (x.s, 6), (2048, 2), (17664, 2), (hsz x, 2), (0, 4), (x.tl, 1)] x.pr 1 [(sm, 2), (x.hs, 4), (x.hd, 4), (x.da, 8)] (by omega) (by omega)
        have e5 : nm (fenc x) 26 4 = x.hs := by rw [hE]; exact nm_seg [(x.d, 6), (x.s, 6), (2048, 2), (17664, 2), (hsz x, 2), (0, 4), (x.tl, 1), (x.pr, 1), (sm, 2)] x.hs 4 [(x.hd, 4), (x.da, 8)] (by omega) (by omega)
        have e6 : nm (fenc x) 30 4 = x.hd := by rw [hE]; exact nm_seg [(x.d, 6), (x.s, 6), (2048, 2), (17664, 2), (hsz x, 2), (0, 4), (x.tl, 1), (x.pr, 1), (sm, 2), (x.hs, 4)] x.hd 4 [(x.da, 8)] (by omega) (by omega)
        have e7 : nm (fenc x) 34 8 = x.da := by rw [hE]; exact nm_seg [(x.d, 6), (x.s, 6), (2048, 2), (17664, 2), (hsz x, 2), (0, 4), (x.tl, 1), (x.pr, 1), (sm, 2), (x.hs, 4), (x.hd, 4)] x.da 8 [] (by omega) (by omega)
        obtain ⟨z10, z11⟩ := hz hp
        refine ⟨by unfold szP; rw [if_neg (by omega), if_neg (by omega), if_neg (by omega), if_pos hcod, if_neg (by omega), e4, hp, hl]; rfl, ?_⟩
        unfold dcP
        rw [if_neg (by omega), if_pos hcod, e4, if_neg (by rw [hp]; decide)]
        unfold dHfF
        rw [e1, e2, e3, e4, e5, e6, e7]
        cases x
        simp_all
      · have hE := enc_t hk hp
        obtain ⟨sm, hsme⟩ : ∃ sm, sumP (hdr x 0) = sm := ⟨_, rfl⟩
        rw [hsme] at hE
        have hl : (fenc x).length = 50 := by rw [hE, flat_len]; rfl
        have hcod : cod (fenc x) = 2048 := by rw [hE]; exact nm_seg [(x.d, 6), (x.s, 6)] 2048 2 (segH x sm ++ [(x.sp, 2), (x.dp, 2), (16, 2), (0, 2), (x.da, 8)]) (by omega) (by omega)
        have e1 : nm (fenc x) 0 6 = x.d := by rw [hE]; exact nm_seg [] x.d 6 ([(x.s, 6), (2048, 2)] ++ (segH x sm ++ [(x.sp, 2), (x.dp, 2), (16, 2), (0, 2), (x.da, 8)])) (by omega) (by omega)
        have e2 : nm (fenc x) 6 6 = x.s := by rw [hE]; exact nm_seg [(x.d, 6)] x.s 6 ([(2048, 2)] ++ (segH x sm ++ [(x.sp, 2), (x.dp, 2), (16, 2), (0, 2), (x.da, 8)])) (by omega) (by omega)
        have e3 : nm (fenc x) 22 1 = x.tl := by rw [hE]; exact nm_seg [(x.d, 6), (x.s, 6), (2048, 2), (17664, 2), (hsz x, 2), (0, 4)] x.tl 1 [(x.pr, 1), (sm, 2), (x.hs, 4), (x.hd, 4), (x.sp, 2), (x.dp, 2), (16, 2), (0, 2), (x.da, 8)] (by omega) (by omega)
        have e4 : nm (fenc x) 23 1 = x.pr := by rw [hE]; exact nm_seg [(x.d, 6), (x.s, 6), (2048, 2), (17664, 2), (hsz x, 2), (0, 4), (x.tl, 1)] x.pr 1 [(sm, 2), (x.hs, 4), (x.hd, 4), (x.sp, 2), (x.dp, 2), (16, 2), (0, 2), (x.da, 8)] (by omega) (by omega)
        have e5 : nm (fenc x) 26 4 = x.hs := by rw [hE]; exact nm_seg [(x.d, 6), (x.s, 6), (2048, 2), (17664, 2), (hsz x, 2), (0, 4), (x.tl, 1), (x.pr, 1), (sm, 2)] x.hs 4 [(x.hd, 4), (x.sp, 2), (x.dp, 2), (16, 2), (0, 2), (x.da, 8)] (by omega) (by omega)
        have e6 : nm (fenc x) 30 4 = x.hd := by rw [hE]; exact nm_seg [(x.d, 6), (x.s, 6), (2048, 2), (17664, 2), (hsz x, 2), (0, 4), (x.tl, 1), (x.pr, 1), (sm, 2), (x.hs, 4)] x.hd 4 [(x.sp, 2), (x.dp, 2), (16, 2), (0, 2), (x.da, 8)] (by omega) (by omega)
        have e8 : nm (fenc x) 34 2 = x.sp := by rw [hE]; exact nm_seg [(x.d, 6), (x.s, 6), (2048, 2), (17664, 2), (hsz x, 2), (0, 4), (x.tl, 1), (x.pr, 1), (sm, 2), (x.hs, 4), (x.hd, 4)] x.sp 2 [(x.dp, 2), (16, 2), (0, 2), (x.da, 8)] (by omega) (by omega)
        have e9 : nm (fenc x) 36 2 = x.dp := by rw [hE]; exact nm_seg [(x.d, 6), (x.s, 6), (2048, 2), (17664, 2), (hsz x, 2), (0, 4), (x.tl, 1), (x.pr, 1), (sm, 2), (x.hs, 4), (x.hd, 4), (x.sp, 2)] x.dp 2 [(16, 2), (0, 2), (x.da, 8)] (by omega) (by omega)
        have e7 : nm (fenc x) 42 8 = x.da := by rw [hE]; exact nm_seg [(x.d, 6), (x.s, 6), (2048, 2), (17664, 2), (hsz x, 2), (0, 4), (x.tl, 1), (x.pr, 1), (sm, 2), (x.hs, 4), (x.hd, 4), (x.sp, 2), (x.dp, 2), (16, 2), (0, 2)] x.da 8 [] (by omega) (by omega)
        refine ⟨by unfold szP; rw [if_neg (by omega), if_neg (by omega), if_neg (by omega), if_pos hcod, if_neg (by omega), e4, hp, hl]; rfl, ?_⟩
        unfold dcP
        rw [if_neg (by omega), if_pos hcod, e4, if_pos hp]
        unfold dHtF
        rw [e1, e2, e3, e4, e5, e6, e7, e8, e9]
        cases x
        simp_all
  obtain ⟨k1, k2⟩ := key
  unfold fread
  rw [k1, k2]
  simp [hc]

end Go.Proofs.Ytgdfpmnbofnjfaa

namespace Go.Proofs.Ytgdfpmnbofnjfaa
open Go.RowKit Go.Shelf
set_option linter.unusedVariables false
set_option linter.unusedSimpArgs false
set_option maxRecDepth 100000

/-- The sum of the numbers. -/
def wsum : List Int → Int
  | [] => 0
  | [a] => a * 256
  | a :: b :: r => a * 256 + b + wsum r
/-- A sum with carries added again. -/
def ocs (t : Int) : Int := if t = 0 then 0 else (t - 1) % 65535 + 1
theorem ocs_step {t n : Int} (ht : 0 ≤ t) (h0 : 0 ≤ n) (h1 : n ≤ 65535) : stp (ocs t) n = ocs (t + n) := by
  unfold ocs stp
  by_cases h : t = 0
  · rw [if_pos h]
    by_cases h2 : n = 0
    · rw [if_pos (by omega), h2]; rfl
    · rw [if_neg (by omega)]; omega
  · rw [if_neg h, if_neg (by omega)]
    omega
theorem foldl_ocs : ∀ (l : List Int) (t : Int), 0 ≤ t → (∀ v ∈ l, 0 ≤ v ∧ v ≤ 65535) → l.foldl stp (ocs t) = ocs (t + l.sum)
  | [], t, _, _ => by simp
  | n :: l, t, ht, h => by
    have hn := h n (by simp)
    rw [List.foldl_cons, ocs_step ht hn.1 hn.2, foldl_ocs l (t + n) (by omega) (fun v hv => h v (by simp [hv])), List.sum_cons, Int.add_assoc]
theorem nums_sum : ∀ l : List Int, (nums l).sum = wsum l
  | [] => rfl
  | [a] => by simp [nums, wsum]
  | a :: b :: r => by rw [nums, wsum, List.sum_cons, nums_sum r]
theorem nums_bd : ∀ (l : List Int), (∀ v ∈ l, 0 ≤ v ∧ v ≤ 255) → ∀ v ∈ nums l, 0 ≤ v ∧ v ≤ 65535
  | [], _, v, hv => by simp [nums] at hv
  | [a], h, v, hv => by
    have := h a (by simp)
    simp [nums] at hv
    omega
  | a :: b :: r, h, v, hv => by
    have h1 := h a (by simp)
    have h2 := h b (by simp)
    simp only [nums, List.mem_cons] at hv
    rcases hv with rfl | hv
    · omega
    · exact nums_bd r (fun u hu => h u (by simp [hu])) v hv
theorem sumP_ocs {l : List Int} (h : ∀ v ∈ l, 0 ≤ v ∧ v ≤ 255) : sumP l = 65535 - ocs (wsum l) := by
  have h2 := foldl_ocs (nums l) 0 (by omega) (nums_bd l h)
  unfold sumP sacc
  rw [show (0 : Int) = ocs 0 from rfl, h2, nums_sum, Int.zero_add]
/-- What a byte counts. -/
def wt (i : Nat) : Int := if i % 2 = 0 then 256 else 1
theorem wsum_set : ∀ (l : List Int) (i : Nat) (v : Int) (h : i < l.length), wsum (l.set i v) = wsum l + (v - l[i]) * wt i
  | [a], 0, v, _ => by simp [wsum, wt]; omega
  | a :: b :: r, 0, v, _ => by simp only [List.set_cons_zero, wsum, List.getElem_cons_zero, wt]; simp; omega
  | a :: b :: r, 1, v, _ => by simp only [List.set_cons_succ, List.set_cons_zero, wsum, List.getElem_cons_succ, List.getElem_cons_zero, wt]; simp; omega
  | a :: b :: r, i + 2, v, h => by
    have ih := wsum_set r i v (by simp at h; omega)
    simp only [List.set_cons_succ, wsum, List.getElem_cons_succ]
    rw [ih, show wt (i + 2) = wt i by unfold wt; rw [Nat.add_mod_right]]
    omega
theorem wsum_flat2 (v : Int) (r : List Int) (h0 : 0 ≤ v) (h1 : v < 65536) : wsum (be v 2 ++ r) = v + wsum r := by
  show wsum ((v / 256 ^ 1 % 256) :: (v / 256 ^ 0 % 256) :: r) = _
  rw [wsum]
  have : (256 : Int) ^ 1 = 256 := by decide
  have : (256 : Int) ^ 0 = 1 := by decide
  omega
theorem wsum_pos {l : List Int} (h : ∀ v ∈ l, 0 ≤ v) : 0 ≤ wsum l := by
  have key : ∀ (n : Nat) (l : List Int), l.length ≤ n → (∀ v ∈ l, 0 ≤ v) → 0 ≤ wsum l := by
    intro n
    induction n with
    | zero => intro l hl _; obtain rfl := List.eq_nil_of_length_eq_zero (Nat.le_zero.1 hl); simp [wsum]
    | succ n ih =>
      intro l hl h
      match l with
      | [] => simp [wsum]
      | [a] => have := h a (by simp); simp only [wsum]; omega
      | a :: b :: r =>
        have h1 := h a (by simp)
        have h2 := h b (by simp)
        have := ih r (by simp at hl; omega) (fun u hu => h u (by simp [hu]))
        simp only [wsum]
        omega
  exact key _ l (Nat.le_refl _) h
theorem be4_split (v : Int) : be v 4 = be (v / 65536) 2 ++ be v 2 := by
  show [v / 256 ^ 3 % 256, v / 256 ^ 2 % 256, v / 256 ^ 1 % 256, v / 256 ^ 0 % 256] = [v / 65536 / 256 ^ 1 % 256, v / 65536 / 256 ^ 0 % 256, v / 256 ^ 1 % 256, v / 256 ^ 0 % 256]
  have e3 : (256 : Int) ^ 3 = 16777216 := by decide
  have e2 : (256 : Int) ^ 2 = 65536 := by decide
  have e1 : (256 : Int) ^ 1 = 256 := by decide
  have e0 : (256 : Int) ^ 0 = 1 := by decide
  rw [e3, e2, e1, e0]
  simp only [List.cons.injEq, and_true]
  refine ⟨?_, ?_⟩ <;> omega
/-- The sum of a header without its checksum. -/
def hsum (x : FR) : Int := wsum (hdr x 0)
theorem hdr_sum (x : FR) (s : Int) (h0 : 0 ≤ s) (h1 : s ≤ 65535) : wsum (hdr x s) = s + hsum x := by
  have key : ∀ (a b c : Int) (p q s : Int) (r : List Int), wsum ((be a 2 ++ be b 2 ++ be c 4 ++ be p 1 ++ be q 1 ++ be s 2) ++ r) = wsum (be a 2 ++ be b 2 ++ be c 4 ++ be p 1 ++ be q 1) + wsum (be s 2 ++ r) := by
    intro a b c p q s r
    simp only [be, List.cons_append, List.nil_append, List.append_assoc, wsum]
    omega
  have e : ∀ s, hdr x s = (be 17664 2 ++ be (hsz x) 2 ++ be 0 4 ++ be x.tl 1 ++ be x.pr 1 ++ be s 2) ++ (be x.hs 4 ++ be x.hd 4) := fun s => by
    unfold hdr
    simp only [List.append_assoc]
  unfold hsum
  rw [e s, e 0, key, key, wsum_flat2 s _ h0 (by omega), wsum_flat2 0 _ (by omega) (by omega)]
  omega
theorem hsum_pos (x : FR) : 0 < hsum x := by
  have hb := hdr_byte x 0
  have e : hdr x 0 = be 17664 2 ++ (be (hsz x) 2 ++ be 0 4 ++ be x.tl 1 ++ be x.pr 1 ++ be 0 2 ++ be x.hs 4 ++ be x.hd 4) := by
    unfold hdr
    simp only [List.append_assoc]
  unfold hsum
  rw [e] at hb ⊢
  rw [wsum_flat2 17664 _ (by omega) (by omega)]
  have := wsum_pos (l := be (hsz x) 2 ++ be 0 4 ++ be x.tl 1 ++ be x.pr 1 ++ be 0 2 ++ be x.hs 4 ++ be x.hd 4) (fun v hv => (hb v (List.mem_append.2 (.inr hv))).1)
  omega
theorem hdrS_wsum (x : FR) : ∃ m, 0 < m ∧ wsum (hdrS x) = 65535 * m := by
  have h1 := sumP_le (hdr x 0) (hdr_byte x 0)
  have h2 := sumP_ocs (hdr_byte x 0)
  have h3 := hsum_pos x
  unfold hdrS
  rw [hdr_sum x _ h1.1 h1.2, h2]
  change ∃ m, 0 < m ∧ 65535 - ocs (hsum x) + hsum x = _
  unfold ocs
  rw [if_neg (by omega)]
  refine ⟨(hsum x - 1) / 65535 + 1, by omega, by omega⟩
theorem hdrS_byte (x : FR) : ∀ v ∈ hdrS x, 0 ≤ v ∧ v ≤ 255 := hdr_byte x _
/-- The checksum of a header with its checksum. -/
theorem hdrS_zero (x : FR) : sumP (hdrS x) = 0 := by
  rw [sumP_ocs (hdrS_byte x)]
  obtain ⟨m, h0, h1⟩ := hdrS_wsum x
  rw [h1]
  unfold ocs
  rw [if_neg (by omega)]
  omega
/-- A header with one byte changed is none. -/
theorem hdrS_other (x y : FR) (i : Nat) (hi : i < (hdrS x).length) (v : Int) (h0 : 0 ≤ v) (h1 : v ≤ 255) (hy : hdrS y = (hdrS x).set i v) : v = (hdrS x)[i] := by
  obtain ⟨m, hm0, hm⟩ := hdrS_wsum x
  obtain ⟨k, hk0, hk⟩ := hdrS_wsum y
  rw [hy, wsum_set _ _ _ hi, hm] at hk
  have hb := hdrS_byte x _ (List.getElem_mem hi)
  unfold wt at hk
  split at hk <;> omega

end Go.Proofs.Ytgdfpmnbofnjfaa

namespace Go.Proofs.Ytgdfpmnbofnjfaa
open Go.RowKit Go.Shelf
set_option linter.unusedVariables false
set_option linter.unusedSimpArgs false
set_option maxRecDepth 100000

/-- The frame of the example. -/
def frl : FR := ⟨2199023255553, 281474976710655, 0, 0, 0, 0, 0, 0, 0, 0, 0, 0, 0, 0, 7⟩
theorem frl_chk : fchk frl = 0 := by decide
theorem frl_ty : frl.ty := ⟨by decide, by decide, by decide, by decide, by decide, by decide, by decide, by decide, by decide, by decide, by decide, by decide, by decide, by decide, by decide⟩
theorem frl_enc : fenc frl = [255, 255, 255, 255, 255, 255, 2, 0, 0, 0, 0, 1, 136, 181, 0, 0, 0, 0, 0, 0, 0, 7] := by decide

end Go.Proofs.Ytgdfpmnbofnjfaa

namespace Go.Proofs.Ytgdfpmnbofnjfaa
open Go.RowKit Go.Shelf
set_option linter.unusedVariables false
set_option linter.unusedSimpArgs false
set_option maxRecDepth 100000

/-- What Read accepts is what Bytes writes. -/
theorem fread_ok {bs : List Int} (h : (fread bs).2.1 = 0) : (szP bs).2.1 = 0 ∧ (szP bs).1 = bs.length ∧ fchk (fread bs).1 = 0 ∧ fenc (fread bs).1 = bs ∧ (fread bs).2.2 = 0 ∧ (fread bs).1 = dcP bs := by
  unfold fread at h ⊢
  by_cases h1 : (szP bs).2.1 ≠ 0
  · rw [if_pos h1] at h; exact absurd h h1
  rw [if_neg h1] at h ⊢
  by_cases h2 : (bs.length : Int) < (szP bs).1
  · rw [if_pos h2] at h; simp at h
  rw [if_neg h2] at h ⊢
  by_cases h3 : (szP bs).1 < (bs.length : Int)
  · rw [if_pos h3] at h; simp at h
  rw [if_neg h3] at h ⊢
  by_cases h4 : fchk (dcP bs) = 0 ∧ fenc (dcP bs) = bs
  · rw [if_pos h4]
    exact ⟨by omega, by omega, h4.1, h4.2, rfl, rfl⟩
  · rw [if_neg h4] at h; simp at h
theorem szP_at (bs : List Int) (h : (szP bs).2.1 ≠ 0) : 0 ≤ (szP bs).2.2 ∧ (szP bs).2.2 ≤ bs.length := by
  unfold szP at h ⊢
  by_cases h1 : bs.length < 14
  · rw [if_pos h1]; exact ⟨Int.natCast_nonneg _, Int.le_refl _⟩
  rw [if_neg h1] at h ⊢
  by_cases h2 : cod bs = 34997
  · rw [if_pos h2] at h; simp at h
  rw [if_neg h2] at h ⊢
  by_cases h3 : cod bs = 2054
  · rw [if_pos h3] at h; simp at h
  rw [if_neg h3] at h ⊢
  by_cases h4 : cod bs = 2048
  · rw [if_pos h4] at h ⊢
    by_cases h5 : bs.length < 34
    · rw [if_pos h5]; exact ⟨Int.natCast_nonneg _, Int.le_refl _⟩
    rw [if_neg h5] at h
    split at h <;> simp at h
  rw [if_neg h4]
  exact ⟨by decide, by simp; omega⟩
theorem szP_nn (bs : List Int) : 0 ≤ (szP bs).1 := by
  have z : ∀ (a b : Int), 0 ≤ ((0 : Int), a, b).1 := fun _ _ => Int.le_refl _
  unfold szP
  split
  · exact z _ _
  split
  · show (0 : Int) ≤ 22; decide
  split
  · show (0 : Int) ≤ 50; decide
  split
  · split
    · exact z _ _
    split
    · show (0 : Int) ≤ 50; decide
    · show (0 : Int) ≤ 42; decide
  · exact z _ _
/-- What Read rejects: no frame, and a place within. -/
theorem fread_bad {bs : List Int} (h : (fread bs).2.1 ≠ 0) : (fread bs).1 = fr0 ∧ 0 ≤ (fread bs).2.2 ∧ (fread bs).2.2 ≤ bs.length := by
  unfold fread at h ⊢
  by_cases h1 : (szP bs).2.1 ≠ 0
  · rw [if_pos h1]; exact ⟨rfl, szP_at bs h1⟩
  rw [if_neg h1] at h ⊢
  by_cases h2 : (bs.length : Int) < (szP bs).1
  · rw [if_pos h2]; exact ⟨rfl, by simp, by simp⟩
  rw [if_neg h2] at h ⊢
  by_cases h3 : (szP bs).1 < (bs.length : Int)
  · rw [if_pos h3]; exact ⟨rfl, szP_nn bs, by simp; omega⟩
  rw [if_neg h3] at h ⊢
  by_cases h4 : fchk (dcP bs) = 0 ∧ fenc (dcP bs) = bs
  · rw [if_pos h4] at h; simp at h
  · rw [if_neg h4]; exact ⟨rfl, by simp, by simp⟩

theorem nm_head {bs cs : List Int} {p m n : Nat} (h : bs.take n = cs.take n) (hp : p + m ≤ n) : nm bs p m = nm cs p m := by
  unfold nm
  have e : ∀ l : List Int, (l.drop p).take m = ((l.take n).drop p).take m := fun l => by
    rw [List.drop_take, List.take_take, Nat.min_eq_left (by omega)]
  rw [e bs, e cs, h]
theorem enc_cod {x : FR} (hc : fchk x = 0) : cod (fenc x) = fcode x.k := by
  rcases perr_k (fchk_zero hc).2.2.2.1 with hk | hk | hk
  · rw [hk, enc_d hk]; exact nm_seg [(x.d, 6), (x.s, 6)] 34997 2 [(x.da, 8)] (by omega) (by omega)
  · rw [hk, enc_a hk]; exact nm_seg [(x.d, 6), (x.s, 6)] 2054 2 [(4429186564, 6), (x.op, 2), (x.sm, 6), (x.si, 4), (x.tm, 6), (x.ti, 4), (x.da, 8)] (by omega) (by omega)
  · cases hp : pd x.pr
    · rw [hk, enc_f hk hp]; exact nm_seg [(x.d, 6), (x.s, 6)] 2048 2 (segH x _ ++ [(x.da, 8)]) (by omega) (by omega)
    · rw [hk, enc_t hk hp]; exact nm_seg [(x.d, 6), (x.s, 6)] 2048 2 (segH x _ ++ [(x.sp, 2), (x.dp, 2), (16, 2), (0, 2), (x.da, 8)]) (by omega) (by omega)
theorem enc_hdr {x : FR} (hk : x.k = 2) : ((fenc x).drop 14).take 20 = hdrS x := by
  unfold hdrS
  rw [hdr_seg]
  cases hp : pd x.pr
  · rw [enc_f hk hp]; exact part_seg [(x.d, 6), (x.s, 6), (2048, 2)] (segH x _) [(x.da, 8)]
  · rw [enc_t hk hp]; exact part_seg [(x.d, 6), (x.s, 6), (2048, 2)] (segH x _) [(x.sp, 2), (x.dp, 2), (16, 2), (0, 2), (x.da, 8)]
theorem enc_len2 {x : FR} (hk : x.k = 2) : 42 ≤ (fenc x).length := by
  cases hp : pd x.pr
  · rw [enc_f hk hp, flat_len]; exact Nat.le_refl 42
  · rw [enc_t hk hp, flat_len]; show 42 ≤ 50; decide

/-- A byte of the header changed: rejected, unless it is what it was. -/
theorem sums_pure {x : FR} (hx : x.ty) (hc : fchk x = 0) (hk : x.k = 2) (a : Nat) (h14 : 14 ≤ a) (h34 : a < 34) (hl : a < (fenc x).length) (u : Int) (h0 : 0 ≤ u) (h1 : u ≤ 255) :
    ((fread ((fenc x).set a u)).2.1 == 0) = (u == (fenc x)[a]) := by
  by_cases hu : u = (fenc x)[a]
  · rw [hu, List.set_getElem_self, fread_enc hx hc]
    simp
  · have hne : (fread ((fenc x).set a u)).2.1 ≠ 0 := by
      intro h
      obtain ⟨_, _, hc2, he, _, _⟩ := fread_ok h
      generalize (fread ((fenc x).set a u)).1 = y at hc2 he
      have hcod : cod (fenc y) = cod (fenc x) := by
        rw [he]
        refine nm_head (n := 14) ?_ (by omega)
        rw [List.take_set_of_le (by omega)]
      rw [enc_cod hc, enc_cod hc2, hk] at hcod
      have hky : y.k = 2 := by
        rcases perr_k (fchk_zero hc2).2.2.2.1 with h | h | h
        · rw [h] at hcod; exact absurd hcod (by decide)
        · rw [h] at hcod; exact absurd hcod (by decide)
        · exact h
      have hh : hdrS y = (hdrS x).set (a - 14) u := by
        rw [← enc_hdr hky, he, ← enc_hdr hk, List.drop_set, if_neg (by omega), List.take_set]
      have hil : a - 14 < (hdrS x).length := by unfold hdrS; rw [hdr_len]; omega
      have h2 := hdrS_other x y (a - 14) hil u h0 h1 hh
      refine hu (h2.trans ?_)
      have h3 : (hdrS x)[a - 14]? = (fenc x)[a]? := by
        rw [← enc_hdr hk, List.getElem?_take_of_lt (by omega), List.getElem?_drop]
        congr 1
        omega
      rw [List.getElem?_eq_getElem hil, List.getElem?_eq_getElem hl] at h3
      exact Option.some.inj h3
    rw [beq_eq_false_iff_ne.2 hne, beq_eq_false_iff_ne.2 hu]

/-- The beginning of a frame. -/
theorem fread_cut {bs : List Int} (h : (fread bs).2.1 = 0) (cut : Nat) (hcut : cut < bs.length) : fread (bs.take cut) = (fr0, 4, (cut : Int)) := by
  obtain ⟨h1, h2, _⟩ := fread_ok h
  have hl : (bs.take cut).length = cut := by simp; omega
  by_cases c14 : cut < 14
  · unfold fread szP
    rw [if_pos (show (bs.take cut).length < 14 by omega), if_pos (show (4 : Int) ≠ 0 by decide), hl]
  have hcod : cod (bs.take cut) = cod bs := nm_head (n := cut) (by rw [List.take_take, Nat.min_self]) (by omega)
  have key : (szP (bs.take cut) = (0, 4, (cut : Int))) ∨ (szP (bs.take cut) = (szP bs)) := by
    unfold szP at h1 ⊢
    rw [if_neg (by omega)] at h1
    rw [if_neg (by omega), hcod, if_neg (show ¬ bs.length < 14 by omega)]
    by_cases k1 : cod bs = 34997
    · rw [if_pos k1, if_pos k1]; exact .inr rfl
    rw [if_neg k1, if_neg k1]
    by_cases k2 : cod bs = 2054
    · rw [if_pos k2, if_pos k2]; exact .inr rfl
    rw [if_neg k2, if_neg k2]
    by_cases k3 : cod bs = 2048
    · rw [if_pos k3, if_pos k3]
      by_cases k4 : cut < 34
      · rw [if_pos (by omega), hl]; exact .inl rfl
      · rw [if_neg (show ¬ (bs.take cut).length < 34 by omega), if_neg (show ¬ bs.length < 34 by omega), nm_head (bs := bs.take cut) (cs := bs) (n := cut) (p := 23) (m := 1) (by rw [List.take_take, Nat.min_self]) (by omega)]
        exact .inr rfl
    rw [if_neg k3, if_neg k3]; exact .inr rfl
  unfold fread
  rcases key with k | k
  · rw [k, if_pos (show (4 : Int) ≠ 0 by decide)]
  · rw [k, if_neg (by omega), hl, if_pos (by omega)]

/-- A frame and more. -/
theorem fread_more {bs more : List Int} (h : (fread bs).2.1 = 0) (hm : 0 < more.length) : fread (bs ++ more) = (fr0, 5, (bs.length : Int)) := by
  obtain ⟨h1, h2, _⟩ := fread_ok h
  have hl : (bs ++ more).length = bs.length + more.length := by simp
  have c14 : ¬ bs.length < 14 := by
    intro hc
    unfold szP at h1
    rw [if_pos hc] at h1
    simp at h1
  have hnm : ∀ p m, p + m ≤ bs.length → nm (bs ++ more) p m = nm bs p m := fun p m hp => nm_head (n := bs.length) (by rw [List.take_left, List.take_length]) hp
  have key : szP (bs ++ more) = szP bs := by
    have hcod : cod (bs ++ more) = cod bs := hnm 12 2 (by omega)
    unfold szP at h1 ⊢
    rw [if_neg c14] at h1
    rw [if_neg (show ¬ (bs ++ more).length < 14 by omega), hcod, if_neg c14]
    by_cases k1 : cod bs = 34997
    · rw [if_pos k1, if_pos k1]
    rw [if_neg k1, if_neg k1]
    by_cases k2 : cod bs = 2054
    · rw [if_pos k2, if_pos k2]
    rw [if_neg k2, if_neg k2]
    by_cases k3 : cod bs = 2048
    · rw [if_neg k1, if_neg k2, if_pos k3] at h1
      by_cases k4 : bs.length < 34
      · rw [if_pos k4] at h1; simp at h1
      · rw [if_pos k3, if_pos k3, if_neg (by omega), if_neg k4, hnm 23 1 (by omega)]
    rw [if_neg k3, if_neg k3]
  unfold fread
  rw [key, if_neg (by omega), hl, if_neg (by omega), if_pos (by omega), h2]

end Go.Proofs.Ytgdfpmnbofnjfaa

namespace Go.Proofs.Ytgdfpmnbofnjfaa
open Go.RowKit Go.Shelf
set_option linter.unusedVariables false
set_option linter.unusedSimpArgs false
set_option maxRecDepth 100000

theorem Row.own {w : World} {h cap base : Nat} {bs : List Int} (H : Row w h cap bs) (hb : base ≤ h) : w.ownsRow base 5 1 (.slice (some ⟨h, 0, none⟩) bs.length cap) bs.length (u8s bs) := by
  obtain ⟨cur, h1, h2, h3, h4, h5⟩ := H
  refine ⟨by simp, .inr ⟨h, cap, cur, rfl, hb, h1, h4, h5, by omega, ?_⟩⟩
  rw [Nat.mul_one]
  exact h3
theorem run_append_none (w : World) (ad : Addr) (n c : Nat) (ty : TypeId) (h : n ≤ c) :
    (Builtin.append_ #[40, 40] ty #[.slice (some ad) n c, .slice none 0 0]).run Try.prog w = .ok (.slice (some ad) n c) w := by
  obtain ⟨i0, hi, hz0, hz1, hz2⟩ := info_parts info_u8
  simp [Builtin.append_, run_underlying Try.underlying40, sizeOf, typeInfo, hi, Builtin.lenOf, Builtin.firstCells, loadCells, loadCellsFrom, storeCells, h]

/-- Bytes appended to a row of the call's own. -/
theorem app_arr {w : World} {b n cap base : Nat} {xs ys : List Int} (H : Row w b cap xs) (hn : xs.length = n) (v2 : Value) (h2 : Arr w v2 ys) (hm1 : xs.length ≤ 1000000) (hm2 : ys.length ≤ 1000000) (hb : base ≤ b) (hbw : base ≤ w.heap.size)
    {ops : Array Oper} {rest : List Oper} {o : Oper} {a : Act} {Q : Exit → Act → World → Prop} (hg : o.guard = none) (s x : Operand)
    (hop : o.op = Op.call { callee := Callee.builtin Builtin.append, args := #[s, x], argTypes := #[40, 40] })
    (hs : a.eval s = .slice (some ⟨b, 0, none⟩) n cap) (hx : a.eval x = v2)
    (h : ∀ v' w', Arr w' v' (xs ++ ys) → Below base w w' → wpList Try.prog ops Q rest (a.put o.dst v') w') : wpList Try.prog ops Q (o :: rest) a w := by
  subst hn
  obtain ⟨i0, hi, hz0, hz1, hz2⟩ := info_parts info_u8
  rcases h2 with ⟨rfl, rfl⟩ | ⟨ad, c, rfl, hc⟩
  · have hcap : xs.length ≤ cap := by obtain ⟨_, _, _, _, h4, _⟩ := H; exact h4
    refine wpList_plain hg fun K hK => ?_
    refine Lib.wp_append_run w s x _ _ hop _ _ hs hx _ _ (run_append_none w _ _ _ _ hcap) ?_
    refine hK _ _ (h _ _ ?_ (Below.refl _ _))
    rw [List.append_nil]
    exact row_arr H rfl
  · refine wpList_append_own w hg s x 40 hop base 5 i0 (.int .u8 0) 1 1 Try.underlying40 hi hz0 hz1 hz2 rfl (by decide) _ _ _ hs (H.own hb) ad ys.length c (u8s ys) hx (by simp) (fun j u hu => hc j u hu) (u8s_one _) (by unfold maxLen; omega) (by omega) hbw ?_
    intro v' w' hown hgrow _
    have hl : (xs ++ ys).length = xs.length + ys.length := by simp
    have hbl : Below base w w' := (Below.refl base w).grown hgrow hbw (fun k e => by cases e; exact hb)
    refine h v' w' ?_ hbl
    by_cases hnil : v' = .slice none 0 0
    · subst hnil
      have h0 : xs.length + ys.length = 0 := by
        rcases hown.2 with ⟨_, h0⟩ | ⟨g, _, _, e, _⟩
        · exact h0
        · cases e
      have hx0 : xs = [] := List.eq_nil_of_length_eq_zero (by omega)
      have hy0 : ys = [] := List.eq_nil_of_length_eq_zero (by omega)
      exact .inl ⟨rfl, by rw [hx0, hy0]; rfl⟩
    · have hown2 : w'.ownsRow base 5 1 v' (xs.length + ys.length) (u8s (xs ++ ys)) := by
        rw [show u8s (xs ++ ys) = u8s xs ++ u8s ys from List.map_append]
        exact hown
      obtain ⟨g, cp, rfl, _, hr⟩ := own_row hown2 hnil hl
      exact row_arr hr hl

theorem only_ty {bs : List Int} (hby : ∀ v ∈ bs, 0 ≤ v ∧ v ≤ 255) (h : (fread bs).2.1 = 0) : (fread bs).1.ty := by
  rw [(fread_ok h).2.2.2.2.2]
  exact dcP_ty hby

end Go.Proofs.Ytgdfpmnbofnjfaa
