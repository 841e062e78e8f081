/- Packets: Read; written by gen_pkw.py. -/
import Derived.Test.YtgdfpmnbofnjfaaPkV
namespace Go.Proofs.Ytgdfpmnbofnjfaa
open Go.RowKit Go.Shelf
set_option linter.unusedVariables false
set_option linter.unusedSimpArgs false
set_option maxRecDepth 100000

/-- What Read answers: the frame and the fault. -/
def fread (bs : List Int) : FR × Int × Int :=
  if (szP bs).2.1 ≠ 0 then (fr0, (szP bs).2.1, (szP bs).2.2)
  else if (bs.length : Int) < (szP bs).1 then (fr0, 4, bs.length)
  else if (szP bs).1 < (bs.length : Int) then (fr0, 5, (szP bs).1)
  else if fchk (dcP bs) = 0 ∧ fenc (dcP bs) = bs then (dcP bs, 0, 0) else (fr0, 3, 0)

/-- The two results in their blocks. -/
structure RW (w : World) (x : FR) (er i : Int) (W : World) : Prop where
  zer : Has W w.heap.size 32 x.cs
  flt : Has W (w.heap.size + 1) 37 #[.int .i64 er, .int .i64 i]
  lo : Below w.heap.size w W
section
variable {w W W' : World} {x : FR} {er i : Int}
theorem RW.below (H : RW w x er i W) (hb : Below W.heap.size W W') : RW w x er i W' := ⟨H.zer.below hb, H.flt.below hb, H.lo.trans (hb.mono H.lo.size)⟩
theorem RW.row (H : RW w x er i W) (x' : FR) : RW w x' er i (W.setRow w.heap.size x'.cs) :=
  ⟨setRow_heap _ _ _ _ _ H.zer, H.flt.grown (Only.row _) (by intro h9; injection h9 with h9; omega), setRow_below H.lo (Nat.le_refl _) H.lo.size⟩
theorem RW.set (H : RW w x er i W) (er' i' : Int) : RW w x er' i' ((W.setCell ⟨w.heap.size + 1, 0, none⟩ (.int .i64 er')).setCell ⟨w.heap.size + 1, 1, none⟩ (.int .i64 i')) :=
  ⟨(H.zer.grown (only_set (only_refl W (w.heap.size + 1)) (p := ⟨w.heap.size + 1, 0, none⟩) (.inl rfl) _) (by intro h9; injection h9 with h9; omega)).grown (only_set (only_refl _ (w.heap.size + 1)) (p := ⟨w.heap.size + 1, 1, none⟩) (.inl rfl) _) (by intro h9; injection h9 with h9; omega),
   (H.flt.set_ 0 (.int .i64 er')).set_ 1 (.int .i64 i'), (H.lo.setCell (p := ⟨w.heap.size + 1, 0, none⟩) (by show w.heap.size ≤ w.heap.size + 1; omega) _).setCell (p := ⟨w.heap.size + 1, 1, none⟩) (by show w.heap.size ≤ w.heap.size + 1; omega) _⟩
end
theorem RW.start (w : World) : RW w fr0 0 0 ((w.alloc (.cells #[.int .u64 0, .int .u64 0, .int .i64 0, .int .i64 0, .int .u64 0, .int .u32 0, .int .u64 0, .int .u32 0, .int .u32 0, .int .u32 0, .int .i64 0, .int .i64 0, .int .i64 0, .int .i64 0, .int .u64 0] 32)).alloc (.cells #[.int .i64 0, .int .i64 0] 37)) := by
  refine ⟨(Has.new w _ _).below ((Below.refl _ _).alloc (Nat.le_refl _) _), ?_, ((Below.refl _ w).alloc (Nat.le_refl _) _).alloc (by simp) _⟩
  have h1 := Has.new (w.alloc (.cells #[.int .u64 0, .int .u64 0, .int .i64 0, .int .i64 0, .int .u64 0, .int .u32 0, .int .u64 0, .int .u32 0, .int .u32 0, .int .u32 0, .int .i64 0, .int .i64 0, .int .i64 0, .int .i64 0, .int .u64 0] 32)) 37 #[.int .i64 0, .int .i64 0]
  rw [World.size_alloc] at h1
  exact h1
theorem ft_fit : (Try.prog.info? 37).map (·.size) = some 2 := by kernel_rfl
theorem read_results {w W : World} {x : FR} {er i : Int} (tmps : Array Value) (h2 : tmps[2]?.getD undef = .pointer (some ⟨w.heap.size, 0, none⟩)) (h3 : tmps[3]?.getD undef = .pointer (some ⟨w.heap.size + 1, 0, none⟩)) (q : RW w x er i W) :
    (results Try.f42 tmps).run Try.prog W = .ok (.tuple #[.agg x.cs, .agg #[.int .i64 er, .int .i64 i]]) W := by
  have hl := run_loadVar_row W w.heap.size 32 32 x.cs (0, 0) _ q.zer Try.underlying32 rfl x.fit
  have hl2 := run_loadVar_row W (w.heap.size + 1) 37 37 #[.int .i64 er, .int .i64 i] (0, 0) _ q.flt Try.underlying37 rfl ft_fit
  simp [results, Try.f42, asAddr, Result.andThen, h2, h3, hl, hl2]

/-- The ranges of what is decoded. -/
theorem nm_i64 {bs : List Int} (hb : ∀ v ∈ bs, 0 ≤ v ∧ v ≤ 255) (p m : Nat) (hm : m ≤ 2) : (Lit.int .i64 (nm bs p m)).wf = true := by
  have h := nm_bd hb p m
  have h2 : (256 : Int) ^ m ≤ 256 ^ 2 := pow_mono 2 hm
  have h3 : -9223372036854775808 ≤ nm bs p m ∧ nm bs p m ≤ 9223372036854775807 := by omega
  exact has_wf (show IntKind.i64.has (nm bs p m) from h3)
theorem nm_u64 {bs : List Int} (hb : ∀ v ∈ bs, 0 ≤ v ∧ v ≤ 255) (p m : Nat) (hm : m ≤ 8) : 0 ≤ nm bs p m ∧ nm bs p m < 18446744073709551616 := by
  have h := nm_bd hb p m
  have h2 : (256 : Int) ^ m ≤ 256 ^ 8 := pow_mono 8 hm
  omega
theorem nm_u32 {bs : List Int} (hb : ∀ v ∈ bs, 0 ≤ v ∧ v ≤ 255) (p m : Nat) (hm : m ≤ 4) : 0 ≤ nm bs p m ∧ nm bs p m < 4294967296 := by
  have h := nm_bd hb p m
  have h2 : (256 : Int) ^ m ≤ 256 ^ 4 := pow_mono 4 hm
  omega
theorem z_i (n : Int) (h : n = 0 ∨ n = 1 ∨ n = 2) : (Lit.int .i64 n).wf = true := by rcases h with rfl | rfl | rfl <;> decide
theorem z_u : (0 : Int) ≤ 0 ∧ (0 : Int) < 18446744073709551616 := by decide
theorem z_w : (0 : Int) ≤ 0 ∧ (0 : Int) < 4294967296 := by decide
theorem dcP_ty {bs : List Int} (hb : ∀ v ∈ bs, 0 ≤ v ∧ v ≤ 255) : (dcP bs).ty := by
  unfold dcP
  split
  · exact ⟨nm_u64 hb _ _ (by decide), nm_u64 hb _ _ (by decide), z_i _ (.inr (.inl rfl)), nm_i64 hb _ _ (by decide), nm_u64 hb _ _ (by decide), nm_u32 hb _ _ (by decide), nm_u64 hb _ _ (by decide), nm_u32 hb _ _ (by decide), z_w, z_w, z_i _ (.inl rfl), z_i _ (.inl rfl), z_i _ (.inl rfl), z_i _ (.inl rfl), nm_u64 hb _ _ (by decide)⟩
  split
  · split
    · exact ⟨nm_u64 hb _ _ (by decide), nm_u64 hb _ _ (by decide), z_i _ (.inr (.inr rfl)), z_i _ (.inl rfl), z_u, z_w, z_u, z_w, nm_u32 hb _ _ (by decide), nm_u32 hb _ _ (by decide), nm_i64 hb _ _ (by decide), nm_i64 hb _ _ (by decide), nm_i64 hb _ _ (by decide), nm_i64 hb _ _ (by decide), nm_u64 hb _ _ (by decide)⟩
    · exact ⟨nm_u64 hb _ _ (by decide), nm_u64 hb _ _ (by decide), z_i _ (.inr (.inr rfl)), z_i _ (.inl rfl), z_u, z_w, z_u, z_w, nm_u32 hb _ _ (by decide), nm_u32 hb _ _ (by decide), nm_i64 hb _ _ (by decide), nm_i64 hb _ _ (by decide), z_i _ (.inl rfl), z_i _ (.inl rfl), nm_u64 hb _ _ (by decide)⟩
  · exact ⟨nm_u64 hb _ _ (by decide), nm_u64 hb _ _ (by decide), z_i _ (.inl rfl), z_i _ (.inl rfl), z_u, z_w, z_u, z_w, z_w, z_w, z_i _ (.inl rfl), z_i _ (.inl rfl), z_i _ (.inl rfl), z_i _ (.inl rfl), nm_u64 hb _ _ (by decide)⟩

/-- What Read returns. -/
def ReadsTo (w : World) (bs : List Int) (e : Ending) (w' : World) : Prop := e = .returned (.tuple #[.agg (fread bs).1.cs, .agg #[.int .i64 (fread bs).2.1, .int .i64 (fread bs).2.2]]) ∧ Below w.heap.size w w'

set_option maxHeartbeats 2000000 in
theorem read_fault (A : Option Addr) (c : Nat) (bs : List Int) (w : World) (hA : Arr w (.slice A bs.length c) bs) (hby : ∀ v ∈ bs, 0 ≤ v ∧ v ≤ 255) (hf : (szP bs).2.1 ≠ 0) :
    Calls Try.prog 42 #[.slice A bs.length c] w (ReadsTo w bs) := by
  obtain ⟨n, hn⟩ : ∃ n, bs.length = n := ⟨_, rfl⟩
  obtain ⟨sz, hsz⟩ : ∃ sz, (szP bs).1 = sz := ⟨_, rfl⟩
  obtain ⟨er, her⟩ : ∃ er, (szP bs).2.1 = er := ⟨_, rfl⟩
  obtain ⟨i, hi⟩ : ∃ i, (szP bs).2.2 = i := ⟨_, rfl⟩
  have HC : Hid (∀ W, Below w.heap.size w W → Calls Try.prog 66 #[.slice A n c] W fun e w' => e = .returned (.tuple #[.int .i64 sz, .agg #[.int .i64 er, .int .i64 i]]) ∧ Below W.heap.size W w') := Lib.hid (fun W hb => by
    have h := size_any _ bs W (hA.below hb) hby
    rw [hsz, her, hi, hn] at h
    exact h)
  have HF : Hid (fread bs = (fr0, er, i)) := Lib.hid (by unfold fread; rw [if_pos hf, her, hi])
  rw [her] at hf
  have hne : (er != 0) = true := by simpa using hf
  rw [hn]
  clear hn hsz her hi hA hby hf
  obtain ⟨W2, hW2⟩ : ∃ W2, ((w.alloc (.cells #[.int .u64 0, .int .u64 0, .int .i64 0, .int .i64 0, .int .u64 0, .int .u32 0, .int .u64 0, .int .u32 0, .int .u32 0, .int .u32 0, .int .i64 0, .int .i64 0, .int .i64 0, .int .i64 0, .int .u64 0] 32)).alloc (.cells #[.int .i64 0, .int .i64 0] 37)) = W2 := ⟨_, rfl⟩
  have HW : Hid (RW w fr0 0 0 W2) := Lib.hid (hW2 ▸ RW.start w)
  go_enter Try.func42, Try.ntmps42
  go_wp2_with fail
  try rw [hW2]
  clear hW2
  refine (HC.out _ HW.out.lo).mono ?_
  rintro e w3 ⟨rfl, hb⟩
  have HV := Lib.hid (HW.out.below hb)
  clear hb HW
  have HW := HV
  clear HV
  go_upto_region 3 with fail
  obtain ⟨W4, hW4⟩ : ∃ W4, w3.alloc (.cells #[.int .i64 er, .int .i64 i] 37) = W4 := ⟨_, rfl⟩
  have HW4 : Hid (RW w fr0 0 0 W4.drew) := Lib.hid (hW4 ▸ HW.out.below ((Below.refl _ w3).alloc (Nat.le_refl _) _).drew)
  have HF4 : Hid (Has W4.drew w3.heap.size 37 #[.int .i64 er, .int .i64 i]) := Lib.hid (hW4 ▸ Has.new w3 _ _)
  have HLt : Hid (w.heap.size + 1 < w3.heap.size) := Lib.hid HW.out.flt.lt
  try rw [hW4]
  clear hW4 HW
  have HS : Hid (∀ W : World, Has W w3.heap.size 37 #[.int .i64 er, .int .i64 i] → (W.cell? ⟨w3.heap.size, 0, none⟩ = some (.int .i64 er) ∧ W.cell? ⟨w3.heap.size, 1, none⟩ = some (.int .i64 i))) := Lib.hid (fun W h => ⟨h.cell 0, h.cell 1⟩)
  refine wp_region_held_drew (S := (fun w' => w'.cell? ⟨w3.heap.size, 0, none⟩ = some (.int .i64 er) ∧ w'.cell? ⟨w3.heap.size, 1, none⟩ = some (.int .i64 i))) (by kernel_rfl) (HS.out _ HF4.out) (fun hHeld => ?_)
  refine wpAnyH_take (i := 0) (oi := { dst := some 18, op := Go.Op.build 32 #[], type := 32, pos := "read.go:22", after := #[], guard := none }) (v := ?_) rfl (by kernel_rfl) (by kernel_rfl) (by kernel_rfl) (fun _ _ _ h => h) (Or.inl ⟨by rfl, ?_⟩) (by assumption) ?_
  rotate_left
  · intro wS hSw
    try dsimp only at hSw
    go_split_ands
    go_simp
    try with_reducible rfl
  try simp only [Act.put, List.setIfInBounds_toArray, List.set_cons_zero, List.set_cons_succ]
  refine wpAnyH_take (i := 1) (oi := { dst := some 19, op := Go.Op.load 37 (Go.Operand.tmp 5), type := 37, pos := "read.go:22", after := #[{ on := 2, ground := Go.Ground.gcOnly Go.Departure.lateStores }], guard := none }) (v := ?_) rfl (by kernel_rfl) (by kernel_rfl) (by kernel_rfl) (fun _ _ _ h => h) (Or.inl ⟨by rfl, ?_⟩) (by assumption) ?_
  rotate_left
  · intro wS hSw
    try dsimp only at hSw
    go_split_ands
    go_simp
    try with_reducible rfl
  try simp only [Act.put, List.setIfInBounds_toArray, List.set_cons_zero, List.set_cons_succ]
  refine wpAnyH_ready (rs := [2]) (by kernel_rfl) (by simp) ?_
  refine AllReadyH.cons (o := { dst := none, op := Go.Op.store 32 (Go.Operand.tmp 2) (Go.Operand.tmp 18), type := 0, pos := "read.go:22", after := #[{ on := 0, ground := Go.Ground.data }, { on := 0, ground := Go.Ground.phase }, { on := 1, ground := Go.Ground.textOnly Go.Departure.lateStores }], guard := none }) rfl (fun K hK => ?_) AllReadyH.nil
  refine stepStoreRow rfl 32 (.tmp 2) (.tmp 18) rfl w.heap.size fr0.cs rfl rfl 32 fr0.cs HW4.out.zer (FR.fit fr0) rfl (FR.one fr0) ?_
  have HW5 := Lib.hid (HW4.out.row fr0)
  have HF5 : Hid (Has (W4.drew.setRow w.heap.size fr0.cs) w3.heap.size 37 #[.int .i64 er, .int .i64 i]) := Lib.hid (HF4.out.grown (Only.row _) (by intro h9; injection h9 with h9; have := HLt.out; omega))
  refine hK.out _ _ (HS.out _ HF5.out) (fun hHeld => ?_)
  clear hK K
  try simp only [Act.put, List.setIfInBounds_toArray, List.set_cons_zero, List.set_cons_succ]
  generalize W4.drew.setRow w.heap.size fr0.cs = W5 at *
  clear HW4 HF4
  refine wpAnyH_ready (rs := [3]) (by kernel_rfl) (by simp) ?_
  refine AllReadyH.cons (o := { dst := none, op := Go.Op.store 37 (Go.Operand.tmp 3) (Go.Operand.tmp 19), type := 0, pos := "read.go:22", after := #[{ on := 1, ground := Go.Ground.data }, { on := 2, ground := Go.Ground.chain }, { on := 0, ground := Go.Ground.phase }, { on := 1, ground := Go.Ground.phase }, { on := 2, ground := Go.Ground.phase }], guard := none }) rfl (fun K hK => ?_) AllReadyH.nil
  have q0 := HW5.out.flt.cell 0
  have q1 := HW5.out.flt.cell 1
  have p0 := HW5.out.flt.free 0
  have p1 := HW5.out.flt.free 1
  simp only [List.getElem?_toArray, List.getElem?_cons_zero, List.getElem?_cons_succ] at q0 q1
  go_simp
  refine hK.out _ _ (HS.out _ ?_) (fun hHeld => ?_)
  · exact (HF5.out.grown (only_set (only_refl _ (w.heap.size + 1)) (p := ⟨w.heap.size + 1, 0, none⟩) (.inl rfl) _) (by intro h9; injection h9 with h9; have := HLt.out; omega)).grown (only_set (only_refl _ (w.heap.size + 1)) (p := ⟨w.heap.size + 1, 1, none⟩) (.inl rfl) _) (by intro h9; injection h9 with h9; have := HLt.out; omega)
  clear hK K
  try simp only [Act.put, List.setIfInBounds_toArray, List.set_cons_zero, List.set_cons_succ]
  refine wpAnyH_done (by kernel_rfl) ?_ _
  have HE := Lib.hid (HW5.out.set er i)
  go_wp2_with fail
  exact bodyPost_ret (v := .tuple #[.agg fr0.cs, .agg #[.int .i64 er, .int .i64 i]]) (read_results _ rfl rfl HE.out) rfl ⟨by rw [HF.out], HE.out.lo⟩

set_option maxHeartbeats 2000000 in
theorem read_short (A : Option Addr) (c : Nat) (bs : List Int) (w : World) (hA : Arr w (.slice A bs.length c) bs) (hby : ∀ v ∈ bs, 0 ≤ v ∧ v ≤ 255) (hf : (szP bs).2.1 = 0) (hs : (bs.length : Int) < (szP bs).1) :
    Calls Try.prog 42 #[.slice A bs.length c] w (ReadsTo w bs) := by
  obtain ⟨n, hn⟩ : ∃ n, bs.length = n := ⟨_, rfl⟩
  obtain ⟨sz, hsz⟩ : ∃ sz, (szP bs).1 = sz := ⟨_, rfl⟩
  obtain ⟨er, her⟩ : ∃ er, (szP bs).2.1 = er := ⟨_, rfl⟩
  obtain ⟨i, hi⟩ : ∃ i, (szP bs).2.2 = i := ⟨_, rfl⟩
  have HC : Hid (∀ W, Below w.heap.size w W → Calls Try.prog 66 #[.slice A n c] W fun e w' => e = .returned (.tuple #[.int .i64 sz, .agg #[.int .i64 er, .int .i64 i]]) ∧ Below W.heap.size W w') := Lib.hid (fun W hb => by
    have h := size_any _ bs W (hA.below hb) hby
    rw [hsz, her, hi, hn] at h
    exact h)
  have HF : Hid (fread bs = (fr0, 4, (n : Int))) := Lib.hid (by unfold fread; rw [if_neg (by omega), if_pos hs, hn])
  rw [hsz, hn] at hs
  rw [her] at hf
  subst hf
  rw [hn]
  clear hn hsz hi hA hby her
  obtain ⟨W2, hW2⟩ : ∃ W2, ((w.alloc (.cells #[.int .u64 0, .int .u64 0, .int .i64 0, .int .i64 0, .int .u64 0, .int .u32 0, .int .u64 0, .int .u32 0, .int .u32 0, .int .u32 0, .int .i64 0, .int .i64 0, .int .i64 0, .int .i64 0, .int .u64 0] 32)).alloc (.cells #[.int .i64 0, .int .i64 0] 37)) = W2 := ⟨_, rfl⟩
  have HW : Hid (RW w fr0 0 0 W2) := Lib.hid (hW2 ▸ RW.start w)
  go_enter Try.func42, Try.ntmps42
  go_wp2_with fail
  try rw [hW2]
  clear hW2
  refine (HC.out _ HW.out.lo).mono ?_
  rintro e w3 ⟨rfl, hb⟩
  have HV := Lib.hid (HW.out.below hb)
  clear hb HW
  have HW := HV
  clear HV
  obtain ⟨W4, hW4⟩ : ∃ W4, w3.alloc (.cells #[.int .i64 0, .int .i64 i] 37) = W4 := ⟨_, rfl⟩
  go_upto_region 2 with fail
  try rw [hW4]
  have HW4 : Hid (RW w fr0 0 0 W4) := Lib.hid (hW4 ▸ HW.out.below ((Below.refl _ w3).alloc (Nat.le_refl _) _))
  have HF4 : Hid (Has W4 w3.heap.size 37 #[.int .i64 0, .int .i64 i]) := Lib.hid (hW4 ▸ Has.new w3 _ _)
  clear hW4 HW
  have HW := HW4
  have c0 := HF4.out.cell 0
  simp only [List.getElem?_toArray, List.getElem?_cons_zero, List.getElem?_cons_succ] at c0
  clear HW4 HF4
  go_wp2_with (refine wpList_store_row rfl 32 (.tmp 2) (.tmp 25) rfl w.heap.size fr0.cs rfl rfl 32 fr0.cs HW.out.zer (FR.fit fr0) rfl (FR.one fr0) ?_; have HW5 := Lib.hid (HW.out.row fr0); generalize W4.setRow w.heap.size fr0.cs = W5 at HW5 ⊢; have q0 := HW5.out.flt.cell 0; have q1 := HW5.out.flt.cell 1; have p0 := HW5.out.flt.free 0; have p1 := HW5.out.flt.free 1; simp only [List.getElem?_toArray, List.getElem?_cons_zero, List.getElem?_cons_succ] at q0 q1)
  have HE := Lib.hid (HW5.out.set 4 (n : Int))
  exact bodyPost_ret (v := .tuple #[.agg fr0.cs, .agg #[.int .i64 4, .int .i64 n]]) (read_results _ rfl rfl HE.out) rfl ⟨by rw [HF.out], HE.out.lo⟩

set_option maxHeartbeats 2000000 in
theorem read_long (A : Option Addr) (c : Nat) (bs : List Int) (w : World) (hA : Arr w (.slice A bs.length c) bs) (hby : ∀ v ∈ bs, 0 ≤ v ∧ v ≤ 255) (hf : (szP bs).2.1 = 0) (hs : (szP bs).1 < (bs.length : Int)) :
    Calls Try.prog 42 #[.slice A bs.length c] w (ReadsTo w bs) := by
  obtain ⟨n, hn⟩ : ∃ n, bs.length = n := ⟨_, rfl⟩
  obtain ⟨sz, hsz⟩ : ∃ sz, (szP bs).1 = sz := ⟨_, rfl⟩
  obtain ⟨er, her⟩ : ∃ er, (szP bs).2.1 = er := ⟨_, rfl⟩
  obtain ⟨i, hi⟩ : ∃ i, (szP bs).2.2 = i := ⟨_, rfl⟩
  have HC : Hid (∀ W, Below w.heap.size w W → Calls Try.prog 66 #[.slice A n c] W fun e w' => e = .returned (.tuple #[.int .i64 sz, .agg #[.int .i64 er, .int .i64 i]]) ∧ Below W.heap.size W w') := Lib.hid (fun W hb => by
    have h := size_any _ bs W (hA.below hb) hby
    rw [hsz, her, hi, hn] at h
    exact h)
  have HF : Hid (fread bs = (fr0, 5, (sz : Int))) := Lib.hid (by unfold fread; rw [if_neg (by omega), if_neg (by omega), if_pos hs, hsz])
  rw [hsz, hn] at hs
  rw [her] at hf
  subst hf
  rw [hn]
  clear hn hsz hi hA hby her
  obtain ⟨W2, hW2⟩ : ∃ W2, ((w.alloc (.cells #[.int .u64 0, .int .u64 0, .int .i64 0, .int .i64 0, .int .u64 0, .int .u32 0, .int .u64 0, .int .u32 0, .int .u32 0, .int .u32 0, .int .i64 0, .int .i64 0, .int .i64 0, .int .i64 0, .int .u64 0] 32)).alloc (.cells #[.int .i64 0, .int .i64 0] 37)) = W2 := ⟨_, rfl⟩
  have HW : Hid (RW w fr0 0 0 W2) := Lib.hid (hW2 ▸ RW.start w)
  go_enter Try.func42, Try.ntmps42
  go_wp2_with fail
  try rw [hW2]
  clear hW2
  refine (HC.out _ HW.out.lo).mono ?_
  rintro e w3 ⟨rfl, hb⟩
  have HV := Lib.hid (HW.out.below hb)
  clear hb HW
  have HW := HV
  clear HV
  obtain ⟨W4, hW4⟩ : ∃ W4, w3.alloc (.cells #[.int .i64 0, .int .i64 i] 37) = W4 := ⟨_, rfl⟩
  go_upto_region 2 with fail
  try rw [hW4]
  have HW4 : Hid (RW w fr0 0 0 W4) := Lib.hid (hW4 ▸ HW.out.below ((Below.refl _ w3).alloc (Nat.le_refl _) _))
  have HF4 : Hid (Has W4 w3.heap.size 37 #[.int .i64 0, .int .i64 i]) := Lib.hid (hW4 ▸ Has.new w3 _ _)
  clear hW4 HW
  have HW := HW4
  have c0 := HF4.out.cell 0
  simp only [List.getElem?_toArray, List.getElem?_cons_zero, List.getElem?_cons_succ] at c0
  clear HW4 HF4
  go_wp2_with (refine wpList_store_row rfl 32 (.tmp 2) (.tmp 34) rfl w.heap.size fr0.cs rfl rfl 32 fr0.cs HW.out.zer (FR.fit fr0) rfl (FR.one fr0) ?_; have HW5 := Lib.hid (HW.out.row fr0); generalize W4.setRow w.heap.size fr0.cs = W5 at HW5 ⊢; have q0 := HW5.out.flt.cell 0; have q1 := HW5.out.flt.cell 1; have p0 := HW5.out.flt.free 0; have p1 := HW5.out.flt.free 1; simp only [List.getElem?_toArray, List.getElem?_cons_zero, List.getElem?_cons_succ] at q0 q1)
  have HE := Lib.hid (HW5.out.set 5 sz)
  exact bodyPost_ret (v := .tuple #[.agg fr0.cs, .agg #[.int .i64 5, .int .i64 sz]]) (read_results _ rfl rfl HE.out) rfl ⟨by rw [HF.out], HE.out.lo⟩

theorem decode_any (v : Value) (bs : List Int) (w : World) (hA : Arr w v bs) (hby : ∀ v ∈ bs, 0 ≤ v ∧ v ≤ 255) (hf : (szP bs).2.1 = 0) (hs : (szP bs).1 = bs.length) :
    Calls Try.prog 67 #[v] w fun e w' => e = .returned (.agg (dcP bs).cs) ∧ Below w.heap.size w w' := by
  unfold szP at hf hs
  by_cases h1 : bs.length < 14
  · rw [if_pos h1] at hf; simp at hf
  rw [if_neg h1] at hf hs
  by_cases h2 : cod bs = 34997
  · rw [if_pos h2] at hs; exact dec_d v bs w hA (by simp at hs; omega) hby h2
  rw [if_neg h2] at hf hs
  by_cases h3 : cod bs = 2054
  · rw [if_pos h3] at hs; exact dec_a v bs w hA (by simp at hs; omega) hby h3
  rw [if_neg h3] at hf hs
  by_cases h4 : cod bs = 2048
  · rw [if_pos h4] at hf hs
    by_cases h5 : bs.length < 34
    · rw [if_pos h5] at hf; simp at hf
    rw [if_neg h5] at hf hs
    cases hp : pd (nm bs 23 1)
    · rw [hp] at hs; exact dec_hf v bs w hA (by simp at hs; omega) hby h4 hp
    · rw [hp] at hs; exact dec_ht v bs w hA (by simp at hs; omega) hby h4 hp
  rw [if_neg h4] at hf; simp at hf
theorem fenc_pos (x : FR) : 0 < (fenc x).length := by
  unfold fenc
  simp only [List.length_append, be_length]
  omega
theorem fenc_byte (x : FR) : ∀ v ∈ fenc x, 0 ≤ v ∧ v ≤ 255 := by
  intro v hv
  simp only [fenc, List.mem_append] at hv
  rcases hv with (((h | h) | h) | h) | h
  · exact be_byte _ _ _ h
  · exact be_byte _ _ _ h
  · exact be_byte _ _ _ h
  · unfold fbody at h
    split at h
    · simp only [bodyA, List.mem_append] at h
      rcases h with ((((h | h) | h) | h) | h) | h
      · simp only [List.mem_cons, List.not_mem_nil, or_false] at h; omega
      all_goals exact be_byte _ _ _ h
    split at h
    · unfold bodyH at h
      split at h
      · simp only [List.mem_append] at h
        rcases h with (((h | h) | h) | h) | h
        · exact hdr_byte _ _ _ h
        all_goals exact be_byte _ _ _ h
      · exact hdr_byte _ _ _ h
    · simp at h
  · exact be_byte _ _ _ h
theorem sz_pos {bs : List Int} (hf : (szP bs).2.1 = 0) (hs : (szP bs).1 = bs.length) : 0 < bs.length := by
  by_cases h : bs.length < 14
  · unfold szP at hf; rw [if_pos h] at hf; simp at hf
  · omega

set_option maxHeartbeats 2000000 in
theorem read_bad1 (A : Option Addr) (c : Nat) (bs : List Int) (w : World) (hA : Arr w (.slice A bs.length c) bs) (hby : ∀ v ∈ bs, 0 ≤ v ∧ v ≤ 255) (hf : (szP bs).2.1 = 0) (hs : (szP bs).1 = bs.length) (hc : fchk (dcP bs) ≠ 0) :
    Calls Try.prog 42 #[.slice A bs.length c] w (ReadsTo w bs) := by
  have HDc : Hid (∀ W, Below w.heap.size w W → Calls Try.prog 67 #[.slice A bs.length c] W fun e w' => e = .returned (.agg (dcP bs).cs) ∧ Below W.heap.size W w') := Lib.hid (fun W hb => decode_any _ bs W (hA.below hb) hby hf hs)
  have HPos := Lib.hid (sz_pos hf hs)
  have hty := dcP_ty hby
  have HBy := Lib.hid hby
  have HA := Lib.hid hA
  obtain ⟨n, hn⟩ : ∃ n, bs.length = n := ⟨_, rfl⟩
  obtain ⟨sz, hsz⟩ : ∃ sz, (szP bs).1 = sz := ⟨_, rfl⟩
  obtain ⟨er, her⟩ : ∃ er, (szP bs).2.1 = er := ⟨_, rfl⟩
  obtain ⟨i, hi⟩ : ∃ i, (szP bs).2.2 = i := ⟨_, rfl⟩
  have HC : Hid (∀ W, Below w.heap.size w W → Calls Try.prog 66 #[.slice A n c] W fun e w' => e = .returned (.tuple #[.int .i64 sz, .agg #[.int .i64 er, .int .i64 i]]) ∧ Below W.heap.size W w') := Lib.hid (fun W hb => by
    have h := size_any _ bs W (hA.below hb) hby
    rw [hsz, her, hi, hn] at h
    exact h)
  have HF : Hid (fread bs = (fr0, 3, 0)) := Lib.hid (by unfold fread; rw [if_neg (by omega), if_neg (by omega), if_neg (by omega), if_neg (fun h => hc h.1)])
  obtain ⟨x, hx⟩ : ∃ x, dcP bs = x := ⟨_, rfl⟩
  rw [hx] at HDc hty hc
  rw [hn] at HDc HA
  rw [hsz, hn] at hs
  rw [her] at hf
  subst hf hs
  rw [hn]
  have HLn := Lib.hid hn
  clear hn hsz hi hA hby her hx
  obtain ⟨ec, hec⟩ : ∃ ec, fchk x = ec := ⟨_, rfl⟩
  have HY : Hid (∀ W : World, Calls Try.prog 27 #[.agg #[.int .u64 x.s, .int .u64 x.d, .int .i64 x.k, .int .i64 x.op, .int .u64 x.sm, .int .u32 x.si, .int .u64 x.tm, .int .u32 x.ti, .int .u32 x.hs, .int .u32 x.hd, .int .i64 x.tl, .int .i64 x.pr, .int .i64 x.sp, .int .i64 x.dp, .int .u64 x.da]] W fun e w' => e = .returned (.tuple #[.slice none 0 0, .int .i64 ec]) ∧ Below W.heap.size W w') := Lib.hid (fun W => hec ▸ bytes_no x hty hc W)
  rw [hec] at hc
  have hne : (ec != 0) = true := by simpa using hc
  clear hec hc hty
  obtain ⟨W2, hW2⟩ : ∃ W2, ((w.alloc (.cells #[.int .u64 0, .int .u64 0, .int .i64 0, .int .i64 0, .int .u64 0, .int .u32 0, .int .u64 0, .int .u32 0, .int .u32 0, .int .u32 0, .int .i64 0, .int .i64 0, .int .i64 0, .int .i64 0, .int .u64 0] 32)).alloc (.cells #[.int .i64 0, .int .i64 0] 37)) = W2 := ⟨_, rfl⟩
  have HW : Hid (RW w fr0 0 0 W2) := Lib.hid (hW2 ▸ RW.start w)
  go_enter Try.func42, Try.ntmps42
  go_wp2_with fail
  try rw [hW2]
  clear hW2
  refine (HC.out _ HW.out.lo).mono ?_
  rintro e w3 ⟨rfl, hb⟩
  have HV := Lib.hid (HW.out.below hb)
  clear hb HW
  have HW := HV
  clear HV
  obtain ⟨W4, hW4⟩ : ∃ W4, w3.alloc (.cells #[.int .i64 0, .int .i64 i] 37) = W4 := ⟨_, rfl⟩
  go_upto_region 2 with fail
  try rw [hW4]
  have HW4 : Hid (RW w fr0 0 0 W4) := Lib.hid (hW4 ▸ HW.out.below ((Below.refl _ w3).alloc (Nat.le_refl _) _))
  have HF4 : Hid (Has W4 w3.heap.size 37 #[.int .i64 0, .int .i64 i]) := Lib.hid (hW4 ▸ Has.new w3 _ _)
  clear hW4 HW
  have HW := HW4
  have c0 := HF4.out.cell 0
  simp only [List.getElem?_toArray, List.getElem?_cons_zero, List.getElem?_cons_succ] at c0
  clear HW4 HF4
  go_wp2_with fail
  refine (HDc.out _ HW.out.lo).mono ?_
  rintro e w5 ⟨rfl, hb⟩
  have HW5 := Lib.hid (HW.out.below hb)
  clear hb c0 HW
  rw [show x.cs = #[.int .u64 x.s, .int .u64 x.d, .int .i64 x.k, .int .i64 x.op, .int .u64 x.sm, .int .u32 x.si, .int .u64 x.tm, .int .u32 x.ti, .int .u32 x.hs, .int .u32 x.hd, .int .i64 x.tl, .int .i64 x.pr, .int .i64 x.sp, .int .i64 x.dp, .int .u64 x.da] from rfl]
  have HW6 : Hid (RW w fr0 0 0 (w5.alloc (.cells #[.int .u64 x.s, .int .u64 x.d, .int .i64 x.k, .int .i64 x.op, .int .u64 x.sm, .int .u32 x.si, .int .u64 x.tm, .int .u32 x.ti, .int .u32 x.hs, .int .u32 x.hd, .int .i64 x.tl, .int .i64 x.pr, .int .i64 x.sp, .int .i64 x.dp, .int .u64 x.da] 32))) := Lib.hid (HW5.out.below ((Below.refl _ w5).alloc (Nat.le_refl _) _))
  have HB6 : Hid (Has (w5.alloc (.cells #[.int .u64 x.s, .int .u64 x.d, .int .i64 x.k, .int .i64 x.op, .int .u64 x.sm, .int .u32 x.si, .int .u64 x.tm, .int .u32 x.ti, .int .u32 x.hs, .int .u32 x.hd, .int .i64 x.tl, .int .i64 x.pr, .int .i64 x.sp, .int .i64 x.dp, .int .u64 x.da] 32)) w5.heap.size 32 x.cs) := Lib.hid (Has.new w5 _ _)
  have HLt : Hid (w.heap.size + 1 < w5.heap.size) := Lib.hid HW5.out.flt.lt
  clear HW5
  go_wp2_with fail
  refine (HY.out _).mono ?_
  rintro e w7 ⟨rfl, hb⟩
  have HW := Lib.hid (HW6.out.below hb)
  have HB := Lib.hid (HB6.out.below hb)
  clear hb HW6 HB6
  go_wp2_with (first | (refine wpList_store_row rfl 32 (.tmp 2) (.tmp 52) rfl w.heap.size fr0.cs rfl rfl 32 fr0.cs HW.out.zer (FR.fit fr0) rfl (FR.one fr0) ?_; have HW5 := Lib.hid (HW.out.row fr0); generalize w7.setRow w.heap.size fr0.cs = W5 at HW5 ⊢; have q0 := HW5.out.flt.cell 0; have q1 := HW5.out.flt.cell 1; have p0 := HW5.out.flt.free 0; have p1 := HW5.out.flt.free 1; simp only [List.getElem?_toArray, List.getElem?_cons_zero, List.getElem?_cons_succ] at q0 q1))
  have HE := Lib.hid (HW5.out.set 3 0)
  exact bodyPost_ret (v := .tuple #[.agg fr0.cs, .agg #[.int .i64 3, .int .i64 0]]) (read_results _ rfl rfl HE.out) rfl ⟨by rw [HF.out], HE.out.lo⟩

set_option maxHeartbeats 2000000 in
theorem read_bad2 (A : Option Addr) (c : Nat) (bs : List Int) (w : World) (hA : Arr w (.slice A bs.length c) bs) (hby : ∀ v ∈ bs, 0 ≤ v ∧ v ≤ 255) (hf : (szP bs).2.1 = 0) (hs : (szP bs).1 = bs.length) (hc : fchk (dcP bs) = 0) (hq : fenc (dcP bs) ≠ bs) :
    Calls Try.prog 42 #[.slice A bs.length c] w (ReadsTo w bs) := by
  have HDc : Hid (∀ W, Below w.heap.size w W → Calls Try.prog 67 #[.slice A bs.length c] W fun e w' => e = .returned (.agg (dcP bs).cs) ∧ Below W.heap.size W w') := Lib.hid (fun W hb => decode_any _ bs W (hA.below hb) hby hf hs)
  have HPos := Lib.hid (sz_pos hf hs)
  have hty := dcP_ty hby
  have HBy := Lib.hid hby
  have HA := Lib.hid hA
  obtain ⟨n, hn⟩ : ∃ n, bs.length = n := ⟨_, rfl⟩
  obtain ⟨sz, hsz⟩ : ∃ sz, (szP bs).1 = sz := ⟨_, rfl⟩
  obtain ⟨er, her⟩ : ∃ er, (szP bs).2.1 = er := ⟨_, rfl⟩
  obtain ⟨i, hi⟩ : ∃ i, (szP bs).2.2 = i := ⟨_, rfl⟩
  have HC : Hid (∀ W, Below w.heap.size w W → Calls Try.prog 66 #[.slice A n c] W fun e w' => e = .returned (.tuple #[.int .i64 sz, .agg #[.int .i64 er, .int .i64 i]]) ∧ Below W.heap.size W w') := Lib.hid (fun W hb => by
    have h := size_any _ bs W (hA.below hb) hby
    rw [hsz, her, hi, hn] at h
    exact h)
  have HF : Hid (fread bs = (fr0, 3, 0)) := Lib.hid (by unfold fread; rw [if_neg (by omega), if_neg (by omega), if_neg (by omega), if_neg (fun h => hq h.2)])
  obtain ⟨x, hx⟩ : ∃ x, dcP bs = x := ⟨_, rfl⟩
  rw [hx] at HDc hty hc hq
  rw [hn] at HDc HA
  rw [hsz, hn] at hs
  rw [her] at hf
  subst hf hs
  rw [hn]
  have HLn := Lib.hid hn
  clear hn hsz hi hA hby her hx
  obtain ⟨m, hm⟩ : ∃ m, (fenc x).length = m := ⟨_, rfl⟩
  have HY : Hid (∀ W : World, Calls Try.prog 27 #[.agg #[.int .u64 x.s, .int .u64 x.d, .int .i64 x.k, .int .i64 x.op, .int .u64 x.sm, .int .u32 x.si, .int .u64 x.tm, .int .u32 x.ti, .int .u32 x.hs, .int .u32 x.hd, .int .i64 x.tl, .int .i64 x.pr, .int .i64 x.sp, .int .i64 x.dp, .int .u64 x.da]] W fun e w' => ∃ b c, e = .returned (.tuple #[.slice (some ⟨b, 0, none⟩) m c, .int .i64 0]) ∧ Row w' b c (fenc x) ∧ W.heap.size ≤ b ∧ Below W.heap.size W w') := Lib.hid (fun W => hm ▸ bytes_yes x hty hc W)
  have HM := Lib.hid hm
  have HQ := Lib.hid hq
  clear hm hq hc hty
  obtain ⟨W2, hW2⟩ : ∃ W2, ((w.alloc (.cells #[.int .u64 0, .int .u64 0, .int .i64 0, .int .i64 0, .int .u64 0, .int .u32 0, .int .u64 0, .int .u32 0, .int .u32 0, .int .u32 0, .int .i64 0, .int .i64 0, .int .i64 0, .int .i64 0, .int .u64 0] 32)).alloc (.cells #[.int .i64 0, .int .i64 0] 37)) = W2 := ⟨_, rfl⟩
  have HW : Hid (RW w fr0 0 0 W2) := Lib.hid (hW2 ▸ RW.start w)
  go_enter Try.func42, Try.ntmps42
  go_wp2_with fail
  try rw [hW2]
  clear hW2
  refine (HC.out _ HW.out.lo).mono ?_
  rintro e w3 ⟨rfl, hb⟩
  have HV := Lib.hid (HW.out.below hb)
  clear hb HW
  have HW := HV
  clear HV
  obtain ⟨W4, hW4⟩ : ∃ W4, w3.alloc (.cells #[.int .i64 0, .int .i64 i] 37) = W4 := ⟨_, rfl⟩
  go_upto_region 2 with fail
  try rw [hW4]
  have HW4 : Hid (RW w fr0 0 0 W4) := Lib.hid (hW4 ▸ HW.out.below ((Below.refl _ w3).alloc (Nat.le_refl _) _))
  have HF4 : Hid (Has W4 w3.heap.size 37 #[.int .i64 0, .int .i64 i]) := Lib.hid (hW4 ▸ Has.new w3 _ _)
  clear hW4 HW
  have HW := HW4
  have c0 := HF4.out.cell 0
  simp only [List.getElem?_toArray, List.getElem?_cons_zero, List.getElem?_cons_succ] at c0
  clear HW4 HF4
  go_wp2_with fail
  refine (HDc.out _ HW.out.lo).mono ?_
  rintro e w5 ⟨rfl, hb⟩
  have HW5 := Lib.hid (HW.out.below hb)
  clear hb c0 HW
  rw [show x.cs = #[.int .u64 x.s, .int .u64 x.d, .int .i64 x.k, .int .i64 x.op, .int .u64 x.sm, .int .u32 x.si, .int .u64 x.tm, .int .u32 x.ti, .int .u32 x.hs, .int .u32 x.hd, .int .i64 x.tl, .int .i64 x.pr, .int .i64 x.sp, .int .i64 x.dp, .int .u64 x.da] from rfl]
  have HW6 : Hid (RW w fr0 0 0 (w5.alloc (.cells #[.int .u64 x.s, .int .u64 x.d, .int .i64 x.k, .int .i64 x.op, .int .u64 x.sm, .int .u32 x.si, .int .u64 x.tm, .int .u32 x.ti, .int .u32 x.hs, .int .u32 x.hd, .int .i64 x.tl, .int .i64 x.pr, .int .i64 x.sp, .int .i64 x.dp, .int .u64 x.da] 32))) := Lib.hid (HW5.out.below ((Below.refl _ w5).alloc (Nat.le_refl _) _))
  have HB6 : Hid (Has (w5.alloc (.cells #[.int .u64 x.s, .int .u64 x.d, .int .i64 x.k, .int .i64 x.op, .int .u64 x.sm, .int .u32 x.si, .int .u64 x.tm, .int .u32 x.ti, .int .u32 x.hs, .int .u32 x.hd, .int .i64 x.tl, .int .i64 x.pr, .int .i64 x.sp, .int .i64 x.dp, .int .u64 x.da] 32)) w5.heap.size 32 x.cs) := Lib.hid (Has.new w5 _ _)
  have HLt : Hid (w.heap.size + 1 < w5.heap.size) := Lib.hid HW5.out.flt.lt
  clear HW5
  go_wp2_with fail
  refine (HY.out _).mono ?_
  rintro e w7 ⟨b7, c7, rfl, hrow, hsz7, hb⟩
  have HR7 := Lib.hid hrow
  clear hrow hsz7
  have HW := Lib.hid (HW6.out.below hb)
  have HB := Lib.hid (HB6.out.below hb)
  clear hb HW6 HB6
  have HEq : Hid (∀ W, W = w7 → Calls Try.prog 26 #[.slice (some ⟨b7, 0, none⟩) m c7, .slice A n c] W fun e w' => e = .returned (.bool false) ∧ W = w') := Lib.hid (fun W hW => by
    subst hW
    have h := equal_any (.slice (some ⟨b7, 0, none⟩) m c7) (.slice A n c) (fenc x) bs W (row_arr HR7.out HM.out) (HA.out.below HW.out.lo) (fenc_pos x) HPos.out (fenc_byte x) HBy.out
    rw [decide_eq_false HQ.out] at h
    exact h)
  go_wp2_with (first | (go_at_call 26; refine (HEq.out _ rfl).mono ?_; rintro e w8 ⟨rfl, rfl⟩) | (refine wpList_store_row rfl 32 (.tmp 2) (.tmp 52) rfl w.heap.size fr0.cs rfl rfl 32 fr0.cs HW.out.zer (FR.fit fr0) rfl (FR.one fr0) ?_; have HW5 := Lib.hid (HW.out.row fr0); generalize w7.setRow w.heap.size fr0.cs = W5 at HW5 ⊢; have q0 := HW5.out.flt.cell 0; have q1 := HW5.out.flt.cell 1; have p0 := HW5.out.flt.free 0; have p1 := HW5.out.flt.free 1; simp only [List.getElem?_toArray, List.getElem?_cons_zero, List.getElem?_cons_succ] at q0 q1))
  have HE := Lib.hid (HW5.out.set 3 0)
  exact bodyPost_ret (v := .tuple #[.agg fr0.cs, .agg #[.int .i64 3, .int .i64 0]]) (read_results _ rfl rfl HE.out) rfl ⟨by rw [HF.out], HE.out.lo⟩

set_option maxHeartbeats 2000000 in
theorem read_ok (A : Option Addr) (c : Nat) (bs : List Int) (w : World) (hA : Arr w (.slice A bs.length c) bs) (hby : ∀ v ∈ bs, 0 ≤ v ∧ v ≤ 255) (hf : (szP bs).2.1 = 0) (hs : (szP bs).1 = bs.length) (hc : fchk (dcP bs) = 0) (hq : fenc (dcP bs) = bs) :
    Calls Try.prog 42 #[.slice A bs.length c] w (ReadsTo w bs) := by
  have HDc : Hid (∀ W, Below w.heap.size w W → Calls Try.prog 67 #[.slice A bs.length c] W fun e w' => e = .returned (.agg (dcP bs).cs) ∧ Below W.heap.size W w') := Lib.hid (fun W hb => decode_any _ bs W (hA.below hb) hby hf hs)
  have HPos := Lib.hid (sz_pos hf hs)
  have hty := dcP_ty hby
  have HBy := Lib.hid hby
  have HA := Lib.hid hA
  obtain ⟨n, hn⟩ : ∃ n, bs.length = n := ⟨_, rfl⟩
  obtain ⟨sz, hsz⟩ : ∃ sz, (szP bs).1 = sz := ⟨_, rfl⟩
  obtain ⟨er, her⟩ : ∃ er, (szP bs).2.1 = er := ⟨_, rfl⟩
  obtain ⟨i, hi⟩ : ∃ i, (szP bs).2.2 = i := ⟨_, rfl⟩
  have HC : Hid (∀ W, Below w.heap.size w W → Calls Try.prog 66 #[.slice A n c] W fun e w' => e = .returned (.tuple #[.int .i64 sz, .agg #[.int .i64 er, .int .i64 i]]) ∧ Below W.heap.size W w') := Lib.hid (fun W hb => by
    have h := size_any _ bs W (hA.below hb) hby
    rw [hsz, her, hi, hn] at h
    exact h)
  have HF : Hid (fread bs = (dcP bs, 0, 0)) := Lib.hid (by unfold fread; rw [if_neg (by omega), if_neg (by omega), if_neg (by omega), if_pos ⟨hc, hq⟩])
  obtain ⟨x, hx⟩ : ∃ x, dcP bs = x := ⟨_, rfl⟩
  rw [hx] at HDc hty hc hq HF
  rw [hn] at HDc HA
  rw [hsz, hn] at hs
  rw [her] at hf
  subst hf hs
  rw [hn]
  have HLn := Lib.hid hn
  clear hn hsz hi hA hby her hx
  obtain ⟨m, hm⟩ : ∃ m, (fenc x).length = m := ⟨_, rfl⟩
  have HY : Hid (∀ W : World, Calls Try.prog 27 #[.agg #[.int .u64 x.s, .int .u64 x.d, .int .i64 x.k, .int .i64 x.op, .int .u64 x.sm, .int .u32 x.si, .int .u64 x.tm, .int .u32 x.ti, .int .u32 x.hs, .int .u32 x.hd, .int .i64 x.tl, .int .i64 x.pr, .int .i64 x.sp, .int .i64 x.dp, .int .u64 x.da]] W fun e w' => ∃ b c, e = .returned (.tuple #[.slice (some ⟨b, 0, none⟩) m c, .int .i64 0]) ∧ Row w' b c (fenc x) ∧ W.heap.size ≤ b ∧ Below W.heap.size W w') := Lib.hid (fun W => hm ▸ bytes_yes x hty hc W)
  have HM := Lib.hid hm
  have HQ := Lib.hid hq
  clear hm hq hc hty
  obtain ⟨W2, hW2⟩ : ∃ W2, ((w.alloc (.cells #[.int .u64 0, .int .u64 0, .int .i64 0, .int .i64 0, .int .u64 0, .int .u32 0, .int .u64 0, .int .u32 0, .int .u32 0, .int .u32 0, .int .i64 0, .int .i64 0, .int .i64 0, .int .i64 0, .int .u64 0] 32)).alloc (.cells #[.int .i64 0, .int .i64 0] 37)) = W2 := ⟨_, rfl⟩
  have HW : Hid (RW w fr0 0 0 W2) := Lib.hid (hW2 ▸ RW.start w)
  go_enter Try.func42, Try.ntmps42
  go_wp2_with fail
  try rw [hW2]
  clear hW2
  refine (HC.out _ HW.out.lo).mono ?_
  rintro e w3 ⟨rfl, hb⟩
  have HV := Lib.hid (HW.out.below hb)
  clear hb HW
  have HW := HV
  clear HV
  obtain ⟨W4, hW4⟩ : ∃ W4, w3.alloc (.cells #[.int .i64 0, .int .i64 i] 37) = W4 := ⟨_, rfl⟩
  go_upto_region 2 with fail
  try rw [hW4]
  have HW4 : Hid (RW w fr0 0 0 W4) := Lib.hid (hW4 ▸ HW.out.below ((Below.refl _ w3).alloc (Nat.le_refl _) _))
  have HF4 : Hid (Has W4 w3.heap.size 37 #[.int .i64 0, .int .i64 i]) := Lib.hid (hW4 ▸ Has.new w3 _ _)
  clear hW4 HW
  have HW := HW4
  have c0 := HF4.out.cell 0
  simp only [List.getElem?_toArray, List.getElem?_cons_zero, List.getElem?_cons_succ] at c0
  clear HW4 HF4
  go_wp2_with fail
  refine (HDc.out _ HW.out.lo).mono ?_
  rintro e w5 ⟨rfl, hb⟩
  have HW5 := Lib.hid (HW.out.below hb)
  clear hb c0 HW
  rw [show x.cs = #[.int .u64 x.s, .int .u64 x.d, .int .i64 x.k, .int .i64 x.op, .int .u64 x.sm, .int .u32 x.si, .int .u64 x.tm, .int .u32 x.ti, .int .u32 x.hs, .int .u32 x.hd, .int .i64 x.tl, .int .i64 x.pr, .int .i64 x.sp, .int .i64 x.dp, .int .u64 x.da] from rfl]
  have HW6 : Hid (RW w fr0 0 0 (w5.alloc (.cells #[.int .u64 x.s, .int .u64 x.d, .int .i64 x.k, .int .i64 x.op, .int .u64 x.sm, .int .u32 x.si, .int .u64 x.tm, .int .u32 x.ti, .int .u32 x.hs, .int .u32 x.hd, .int .i64 x.tl, .int .i64 x.pr, .int .i64 x.sp, .int .i64 x.dp, .int .u64 x.da] 32))) := Lib.hid (HW5.out.below ((Below.refl _ w5).alloc (Nat.le_refl _) _))
  have HB6 : Hid (Has (w5.alloc (.cells #[.int .u64 x.s, .int .u64 x.d, .int .i64 x.k, .int .i64 x.op, .int .u64 x.sm, .int .u32 x.si, .int .u64 x.tm, .int .u32 x.ti, .int .u32 x.hs, .int .u32 x.hd, .int .i64 x.tl, .int .i64 x.pr, .int .i64 x.sp, .int .i64 x.dp, .int .u64 x.da] 32)) w5.heap.size 32 x.cs) := Lib.hid (Has.new w5 _ _)
  have HLt : Hid (w.heap.size + 1 < w5.heap.size) := Lib.hid HW5.out.flt.lt
  clear HW5
  go_wp2_with fail
  refine (HY.out _).mono ?_
  rintro e w7 ⟨b7, c7, rfl, hrow, hsz7, hb⟩
  have HR7 := Lib.hid hrow
  clear hrow hsz7
  have HW := Lib.hid (HW6.out.below hb)
  have HB := Lib.hid (HB6.out.below hb)
  clear hb HW6 HB6
  have HEq : Hid (∀ W, W = w7 → Calls Try.prog 26 #[.slice (some ⟨b7, 0, none⟩) m c7, .slice A n c] W fun e w' => e = .returned (.bool true) ∧ W = w') := Lib.hid (fun W hW => by
    subst hW
    have h := equal_any (.slice (some ⟨b7, 0, none⟩) m c7) (.slice A n c) (fenc x) bs W (row_arr HR7.out HM.out) (HA.out.below HW.out.lo) (fenc_pos x) HPos.out (fenc_byte x) HBy.out
    rw [decide_eq_true HQ.out] at h
    exact h)
  go_wp2_with (first | (go_at_call 26; refine (HEq.out _ rfl).mono ?_; rintro e w8 ⟨rfl, rfl⟩) | (refine wpList_load_row rfl 32 (.tmp 6) rfl w5.heap.size rfl 32 x.cs (0, 0) _ HB.out Try.underlying32 rfl x.fit ?_) | (refine wpList_store_row rfl 32 (.tmp 2) (.tmp 54) rfl w.heap.size x.cs rfl rfl 32 fr0.cs HW.out.zer (FR.fit x) rfl (FR.one x) ?_; have HW5 := Lib.hid (HW.out.row x); generalize w7.setRow w.heap.size x.cs = W5 at HW5 ⊢; have q0 := HW5.out.flt.cell 0; have q1 := HW5.out.flt.cell 1; have p0 := HW5.out.flt.free 0; have p1 := HW5.out.flt.free 1; simp only [List.getElem?_toArray, List.getElem?_cons_zero, List.getElem?_cons_succ] at q0 q1))
  have HE := Lib.hid (HW5.out.set 0 0)
  exact bodyPost_ret (v := .tuple #[.agg x.cs, .agg #[.int .i64 0, .int .i64 0]]) (read_results _ rfl rfl HE.out) rfl ⟨by rw [HF.out], HE.out.lo⟩

/-- **Read, of whatever slice.** -/
theorem read_any (v : Value) (bs : List Int) (w : World) (hA : Arr w v bs) (hby : ∀ v ∈ bs, 0 ≤ v ∧ v ≤ 255) : Calls Try.prog 42 #[v] w (ReadsTo w bs) := by
  obtain ⟨A, c, rfl⟩ := hA.form
  by_cases hf : (szP bs).2.1 = 0
  · by_cases h1 : (bs.length : Int) < (szP bs).1
    · exact read_short A c bs w hA hby hf h1
    by_cases h2 : (szP bs).1 < (bs.length : Int)
    · exact read_long A c bs w hA hby hf h2
    have hs : (szP bs).1 = bs.length := by omega
    by_cases hc : fchk (dcP bs) = 0
    · by_cases hq : fenc (dcP bs) = bs
      · exact read_ok A c bs w hA hby hf hs hc hq
      · exact read_bad2 A c bs w hA hby hf hs hc hq
    · exact read_bad1 A c bs w hA hby hf hs hc
  · exact read_fault A c bs w hA hby hf

end Go.Proofs.Ytgdfpmnbofnjfaa
